/- Trees as the program's types and values are: plain functions on them, and how they lie in memory. Walks: whether a type is in form. Walks: types are ok, by the program and by the specification. Walks: a type copied. Walks: a part of a type by a path. Terms as they lie in memory. Walks: how codes are read and types are drawn. Walks: codes opened, types drawn. Walks: types drawn, some spoilt. -/
import Derived.WalkKit
import Derived.WalkSpells
import Derived.WalkLawsBesides
import Derived.Deep.Trees
import Derived.Deep.Draws
import Derived.Test.YtgpdnoghlommeaaGreatDoorProg
import Derived.Deep.RegionWith
import Derived.Deep.RegionHeld3
import Derived.Deep.AppendLies
import Derived.Deep.DrawnRows
import Derived.OneCell
import Derived.Deep.QuietTactic
import Derived.BigQuiet
namespace Go.Proofs.YtgpdnoghlommeaaGreatDoor

open Go.RowKit Go.Deep

/-- A list of trees: each a number and a list of trees. (The two places of a node are not looked at.) -/
abbrev F := BT Int

def len : F → Nat
  | .nil => 0
  | .node _ _ _ _ r => len r + 1

def kid : F → Nat → F
  | .nil, _ => .nil
  | .node _ _ _ k _, 0 => k
  | .node _ _ _ _ r, i + 1 => kid r i

def num : F → Nat → Int
  | .nil, _ => 0
  | .node _ _ n _ _, 0 => n
  | .node _ _ _ _ r, i + 1 => num r i

def dep : F → Nat
  | .nil => 0
  | .node _ _ _ k r => max (dep k + 1) (dep r)

theorem dep_kid : ∀ (f : F) (i : Nat), i < len f → dep (kid f i) < dep f
  | .nil, _, h => by simp [len] at h
  | .node _ _ _ k r, 0, _ => by simp only [kid, dep]; omega
  | .node _ _ _ k r, i + 1, h => by
    have := dep_kid r i (by simp only [len] at h; omega)
    simp only [kid, dep]; omega

/-- Two of them. -/
def two (n : Int) (a : F) (m : Int) (b : F) : F := .node 0 0 n a (.node 0 0 m b .nil)

theorem len_two (n m : Int) (a b : F) : len (two n a m b) = 2 := rfl
theorem kid_two0 (n m : Int) (a b : F) : kid (two n a m b) 0 = a := rfl
theorem kid_two1 (n m : Int) (a b : F) : kid (two n a m b) 1 = b := rfl
theorem num_two0 (n m : Int) (a b : F) : num (two n a m b) 0 = n := rfl
theorem num_two1 (n m : Int) (a b : F) : num (two n a m b) 1 = m := rfl

/-- From block lo on, all that was there is there. -/
structure Kp (lo : Nat) (w w' : World) : Prop where
  size : w.heap.size ≤ w'.heap.size
  block : ∀ k, lo ≤ k → k < w.heap.size → w'.heap[k]? = w.heap[k]?

theorem Kp.refl (lo : Nat) (w : World) : Kp lo w w := ⟨Nat.le_refl _, fun _ _ _ => rfl⟩
theorem Kp.trans {lo : Nat} {a b c : World} (h : Kp lo a b) (k : Kp lo b c) : Kp lo a c :=
  ⟨Nat.le_trans h.size k.size, fun i h1 h2 => (k.block i h1 (Nat.lt_of_lt_of_le h2 h.size)).trans (h.block i h1 h2)⟩
theorem Kp.mono {lo lo' : Nat} {w w' : World} (h : Kp lo w w') (hl : lo ≤ lo') : Kp lo' w w' := ⟨h.size, fun k h1 h2 => h.block k (Nat.le_trans hl h1) h2⟩
theorem Kp.of_below {w w' : World} (h : Below w.heap.size w w') (lo : Nat) : Kp lo w w' := ⟨h.size, fun k _ h2 => h.block k h2⟩
theorem Kp.cell {lo : Nat} {w w' : World} (h : Kp lo w w') {p : Addr} (h1 : lo ≤ p.block) (h2 : p.block < w.heap.size) : w'.cell? p = w.cell? p := World.cell?_of_block (w := w) (h.block p.block h1 h2)

/-- All that was there in blocks of S is there. -/
def Ks (S : Nat → Prop) (w w' : World) : Prop := ∀ k, S k → k < w.heap.size → w'.heap[k]? = w.heap[k]?
theorem Ks.cell {S : Nat → Prop} {w w' : World} (h : Ks S w w') {p : Addr} (h1 : S p.block) (h2 : p.block < w.heap.size) : w'.cell? p = w.cell? p := World.cell?_of_block (w := w) (h p.block h1 h2)

/-- A list of types lies at block b from place o on: a cell each, its own list behind it, all in blocks of S. -/
def SC (w : World) (S : Nat → Prop) : F → Nat → Nat → Prop
  | .nil, _, _ => True
  | .node _ _ _ k r, b, o => (∃ a cap, w.cell? ⟨b, o, none⟩ = some (.slice a (len k) cap) ∧ (len k = 0 ∨ ∃ b' o', a = some ⟨b', o', none⟩ ∧ S b' ∧ SC w S k b' o')) ∧ SC w S r b (o + 1)

/-- A list of types lies behind a slice's address. -/
def SA (w : World) (S : Nat → Prop) (f : F) (a : Option Addr) : Prop := len f = 0 ∨ ∃ b o, a = some ⟨b, o, none⟩ ∧ S b ∧ SC w S f b o

theorem SC_cell {w : World} {S : Nat → Prop} : ∀ {f : F} {b o : Nat}, SC w S f b o → ∀ i, i < len f → ∃ a cap, w.cell? ⟨b, o + i, none⟩ = some (.slice a (len (kid f i)) cap) ∧ SA w S (kid f i) a
  | .nil, _, _, _, i, h => by simp [len] at h
  | .node _ _ _ k r, b, o, hc, 0, _ => hc.1
  | .node _ _ _ k r, b, o, hc, i + 1, h => by
    have := SC_cell hc.2 i (by simp only [len] at h; omega)
    rw [Nat.add_right_comm, Nat.add_assoc] at this
    exact this

theorem SC_mk {w : World} {S : Nat → Prop} : ∀ {f : F} {b o : Nat}, (∀ i, i < len f → ∃ a cap, w.cell? ⟨b, o + i, none⟩ = some (.slice a (len (kid f i)) cap) ∧ SA w S (kid f i) a) → SC w S f b o
  | .nil, _, _, _ => trivial
  | .node _ _ _ k r, b, o, h => by
    refine ⟨h 0 (by simp [len]), SC_mk fun i hi => ?_⟩
    have := h (i + 1) (by simp only [len]; omega)
    rw [show o + (i + 1) = o + 1 + i by omega] at this
    exact this

theorem SC_ks {w w' : World} {S : Nat → Prop} (hk : Ks S w w') : ∀ {f : F} {b o : Nat}, S b → SC w S f b o → SC w' S f b o
  | .nil, _, _, _, _ => trivial
  | .node _ _ _ k r, b, o, hb, ⟨⟨a, cap, hc, hr⟩, h2⟩ => by
    refine ⟨⟨a, cap, ?_, ?_⟩, SC_ks hk hb h2⟩
    · rw [hk.cell hb (World.block_lt_of_cell? _ _ hc)]; exact hc
    · rcases hr with h0 | ⟨b', o', e, hb', ht⟩
      · exact Or.inl h0
      · exact Or.inr ⟨b', o', e, hb', SC_ks hk hb' ht⟩

theorem SA_ks {w w' : World} {S : Nat → Prop} {f : F} {a : Option Addr} (h : SA w S f a) (hk : Ks S w w') : SA w' S f a := by
  rcases h with h | ⟨b, o, e, hb, ht⟩
  · exact Or.inl h
  · exact Or.inr ⟨b, o, e, hb, SC_ks hk hb ht⟩

theorem SC_mono {w : World} {S S' : Nat → Prop} (hl : ∀ b, b < w.heap.size → S b → S' b) : ∀ {f : F} {b o : Nat}, SC w S f b o → SC w S' f b o
  | .nil, _, _, _ => trivial
  | .node _ _ _ k r, b, o, ⟨⟨a, cap, hc, hr⟩, h2⟩ => by
    refine ⟨⟨a, cap, hc, ?_⟩, SC_mono hl h2⟩
    rcases hr with h0 | ⟨b', o', e, hb', ht⟩
    · exact Or.inl h0
    · by_cases h0 : len k = 0
      · exact Or.inl h0
      · obtain ⟨_, _, hc', _⟩ := SC_cell ht 0 (by omega)
        exact Or.inr ⟨b', o', e, hl b' (World.block_lt_of_cell? _ _ hc') hb', SC_mono hl ht⟩

theorem SA_mono {w : World} {S S' : Nat → Prop} {f : F} {a : Option Addr} (h : SA w S f a) (hl : ∀ b, b < w.heap.size → S b → S' b) : SA w S' f a := by
  rcases h with h | ⟨b, o, e, hb, ht⟩
  · exact Or.inl h
  · by_cases h0 : len f = 0
    · exact Or.inl h0
    · obtain ⟨_, _, hc', _⟩ := SC_cell ht 0 (by omega)
      exact Or.inr ⟨b, o, e, hl b (World.block_lt_of_cell? _ _ hc') hb, SC_mono hl ht⟩

theorem SA_at {w : World} {S : Nat → Prop} {f : F} {a : Option Addr} (h : SA w S f a) (h0 : 0 < len f) : ∃ b o, a = some ⟨b, o, none⟩ ∧ S b ∧ b < w.heap.size ∧
    ∀ i, i < len f → ∃ a' cap, w.cell? ⟨b, o + i, none⟩ = some (.slice a' (len (kid f i)) cap) ∧ SA w S (kid f i) a' := by
  rcases h with h | ⟨b, o, e, hb, ht⟩
  · omega
  · obtain ⟨_, _, hc, _⟩ := SC_cell ht 0 h0
    exact ⟨b, o, e, hb, World.block_lt_of_cell? _ _ hc, fun i hi => SC_cell ht i hi⟩

theorem SA_mk {w : World} {S : Nat → Prop} {f : F} {g o : Nat} (hg : S g) (h : ∀ i, i < len f → ∃ a cap, w.cell? ⟨g, o + i, none⟩ = some (.slice a (len (kid f i)) cap) ∧ SA w S (kid f i) a) : SA w S f (some ⟨g, o, none⟩) :=
  Or.inr ⟨g, o, rfl, hg, SC_mk h⟩

theorem SA_two {w : World} {S : Nat → Prop} {f : F} (h2 : len f = 2) {g o : Nat} (hg : S g) {a0 a1 : Option Addr} {k0 k1 : Nat} (c0 : w.cell? ⟨g, o, none⟩ = some (.slice a0 (len (kid f 0)) k0)) (c1 : w.cell? ⟨g, o + 1, none⟩ = some (.slice a1 (len (kid f 1)) k1))
    (t0 : SA w S (kid f 0) a0) (t1 : SA w S (kid f 1) a1) : SA w S f (some ⟨g, o, none⟩) := by
  refine SA_mk hg fun i hi => ?_
  have : i = 0 ∨ i = 1 := by omega
  rcases this with rfl | rfl
  · exact ⟨a0, k0, c0, t0⟩
  · exact ⟨a1, k1, c1, t1⟩

/-- .. all from block lo on. -/
def TA (w : World) (lo : Nat) (f : F) (a : Option Addr) : Prop := SA w (fun b => lo ≤ b) f a

theorem TA_kp {w w' : World} {lo : Nat} {f : F} {a : Option Addr} (h : TA w lo f a) (hk : Kp lo w w') : TA w' lo f a := SA_ks h hk.block
theorem TA_lo {w : World} {lo lo' : Nat} {f : F} {a : Option Addr} (h : TA w lo f a) (hl : lo' ≤ lo) : TA w lo' f a := SA_mono h fun _ _ hb => Nat.le_trans hl hb
theorem TA_below {w w' : World} {lo : Nat} {f : F} {a : Option Addr} (h : TA w lo f a) (hb : Below w.heap.size w w') : TA w' lo f a := TA_kp h (Kp.of_below hb lo)
theorem TA_nil (w : World) (lo : Nat) (a : Option Addr) : TA w lo .nil a := Or.inl rfl
theorem TA_at {w : World} {lo : Nat} {f : F} {a : Option Addr} (h : TA w lo f a) (h0 : 0 < len f) : ∃ b o, a = some ⟨b, o, none⟩ ∧ lo ≤ b ∧ b < w.heap.size ∧
    ∀ i, i < len f → ∃ a' cap, w.cell? ⟨b, o + i, none⟩ = some (.slice a' (len (kid f i)) cap) ∧ TA w lo (kid f i) a' := SA_at h h0
theorem TA_two {w : World} {lo : Nat} {f : F} (h2 : len f = 2) {g o : Nat} (hg : lo ≤ g) {a0 a1 : Option Addr} {k0 k1 : Nat} (c0 : w.cell? ⟨g, o, none⟩ = some (.slice a0 (len (kid f 0)) k0)) (c1 : w.cell? ⟨g, o + 1, none⟩ = some (.slice a1 (len (kid f 1)) k1))
    (t0 : TA w lo (kid f 0) a0) (t1 : TA w lo (kid f 1) a1) : TA w lo f (some ⟨g, o, none⟩) := SA_two h2 hg c0 c1 t0 t1

/-- All lists are of a length that can be counted. -/
def Sm : F → Prop
  | .nil => True
  | .node _ _ _ k r => len k ≤ 1000000000 ∧ Sm k ∧ Sm r
theorem Sm_kid : ∀ {f : F}, Sm f → ∀ i, i < len f → len (kid f i) ≤ 1000000000 ∧ Sm (kid f i)
  | .nil, _, i, h => by simp [len] at h
  | .node _ _ _ k r, hs, 0, _ => ⟨hs.1, hs.2.1⟩
  | .node _ _ _ k r, hs, i + 1, h => Sm_kid hs.2.2 i (by simp only [len] at h; omega)

theorem ret_b {a b : Bool} (h : a = b) : Ending.returned (.bool a) = .returned (.bool b) := by rw [h]
theorem ret_s {a b : ByteArray} (h : a = b) : Ending.returned (.string a) = .returned (.string b) := by rw [h]
theorem ret_i {k : IntKind} {a b : Int} (h : a = b) : Ending.returned (.int k a) = .returned (.int k b) := by rw [h]

/-- Nothing that was there has turned. -/
abbrev Ex (w w' : World) : Prop := Below w.heap.size w w'
theorem Ex.refl (w : World) : Ex w w := Below.refl _ _
theorem Ex.trans {a b c : World} (h : Ex a b) (k : Ex b c) : Ex a c := Below.trans h (Below.mono k h.size)
theorem Ex.alloc {a b : World} (h : Ex a b) (o : Obj) : Ex a (b.alloc o) := Below.alloc h h.size o
theorem Ex.new (w : World) (o : Obj) : Ex w (w.alloc o) := Ex.alloc (Ex.refl w) o
theorem Ex.drew {a b : World} (h : Ex a b) : Ex a b.drew := Below.drew h
theorem Ex.drewN {a b : World} (h : Ex a b) (n : Nat) : Ex a (b.drewN n) := ⟨h.os, h.tape, h.output, h.size, h.block⟩
theorem Ex.set {a b : World} (h : Ex a b) {p : Addr} (hp : a.heap.size ≤ p.block) (u : Value) : Ex a (b.setCell p u) := Below.setCell h hp u
theorem Ex.at {a b : World} (h : Ex a b) {p : Addr} {v : Value} (hc : a.cell? p = some v) : b.cell? p = some v := (Below.cell h (World.block_lt_of_cell? _ _ hc)).trans hc
theorem Ex.lt {a b : World} (h : Ex a b) {n : Nat} (hn : n < a.heap.size) : n < b.heap.size := Nat.lt_of_lt_of_le hn h.size

theorem Ex.blk {a b : World} (h : Ex a b) {n : Nat} {o : Obj} (hc : a.heap[n]? = some o) : b.heap[n]? = some o := by
  have hn : n < a.heap.size := by
    rcases Nat.lt_or_ge n a.heap.size with h' | h'
    · exact h'
    · rw [Array.getElem?_eq_none h'] at hc; cases hc
  exact (h.block n hn).trans hc

theorem Kp.ex {lo : Nat} {a b c : World} (h : Kp lo a b) (k : Ex b c) : Kp lo a c := h.trans (Kp.of_below k lo)
theorem Kp.alloc {lo : Nat} {a b : World} (h : Kp lo a b) (o : Obj) : Kp lo a (b.alloc o) := h.ex (Ex.new _ _)
theorem Kp.drew {lo : Nat} {a b : World} (h : Kp lo a b) : Kp lo a b.drew := ⟨h.size, h.block⟩
theorem Kp.set {lo : Nat} {a b : World} (h : Kp lo a b) {p : Addr} (hp : p.block < lo ∨ a.heap.size ≤ p.block) (v : Value) : Kp lo a (b.setCell p v) :=
  ⟨by rw [World.size_setCell]; exact h.size, fun k h1 h2 => by rw [Below.heap_setCell _ _ _ _ (by omega)]; exact h.block k h1 h2⟩

theorem cell_set_new (w : World) (p : Addr) (v : Value) (cs : Array Value) (t : TypeId) (i : Nat) : ((w.setCell p v).alloc (.cells cs t)).cell? ⟨w.heap.size, i, none⟩ = cs[i]? := by
  have := World.cell?_alloc_new (w.setCell p v) cs t i
  rw [World.size_setCell] at this; exact this

theorem res_at {w : World} {p : Addr} {u : Value} (hc : w.cell? p = some u) (v : Value) (o : Obj) : ((w.setCell p v).alloc o).cell? p = some v :=
  (World.cell?_alloc_lt _ _ _ (by rw [World.size_setCell]; exact World.block_lt_of_cell? _ _ hc)).trans (World.cell?_setCell_same _ _ _ hc)

/-- While a region goes on: nothing of W0 has turned, and block n is one with c cells of type t that may be written. -/
def Core (W0 : World) (n c : Nat) (t : TypeId) (w : World) : Prop := Ex W0 w ∧ W0.heap.size ≤ n ∧ ∃ vs : Array Value, vs.size = c ∧ w.heap[n]? = some (.cells vs t (0, 0))
theorem Core.lt {W0 w : World} {n c : Nat} {t : TypeId} (h : Core W0 n c t w) : n < w.heap.size := by
  obtain ⟨_, _, vs, _, hv⟩ := h
  rcases Nat.lt_or_ge n w.heap.size with h' | h'
  · exact h'
  · rw [Array.getElem?_eq_none h'] at hv; cases hv
theorem Core.start (W0 : World) (vs : Array Value) (t : TypeId) : Core W0 W0.heap.size vs.size t (W0.alloc (.cells vs t)) := ⟨Ex.new _ _, Nat.le_refl _, vs, rfl, by show (W0.heap.push _)[W0.heap.size]? = _; simp⟩
theorem Core.drew {W0 w : World} {n c : Nat} {t : TypeId} (h : Core W0 n c t w) : Core W0 n c t w.drew := ⟨h.1.drew, h.2.1, h.2.2⟩
theorem Core.ex {W0 w w1 : World} {n c : Nat} {t : TypeId} (h : Core W0 n c t w) (hb : Ex w w1) : Core W0 n c t w1 := by
  obtain ⟨h1, h2, vs, h3, h4⟩ := h
  exact ⟨h1.trans hb, h2, vs, h3, hb.blk h4⟩
theorem Core.alloc {W0 w : World} {n c : Nat} {t : TypeId} (h : Core W0 n c t w) (o : Obj) : Core W0 n c t (w.alloc o) := h.ex (Ex.new _ _)
theorem Core.set {W0 w : World} {n c : Nat} {t : TypeId} (h : Core W0 n c t w) (m i : Nat) (hm : W0.heap.size ≤ m) (v : Value) : Core W0 n c t (w.setCell ⟨m, i, none⟩ v) := by
  obtain ⟨h1, h2, vs, h3, h4⟩ := h
  refine ⟨h1.set hm v, h2, ?_⟩
  by_cases hmn : m = n
  · subst hmn
    exact ⟨vs.setIfInBounds i v, by simp [h3], by simp [World.setCell, Array.getElem?_modify, h4]⟩
  · exact ⟨vs, h3, by rw [Below.heap_setCell _ _ _ _ (by simpa using fun e => hmn e.symm)]; exact h4⟩
theorem Core.cell {W0 w : World} {n c : Nat} {t : TypeId} (h : Core W0 n c t w) (i : Nat) (hi : i < c) : ∃ v, w.cell? ⟨n, i, none⟩ = some v := by
  obtain ⟨_, _, vs, h3, h4⟩ := h
  exact ⟨vs[i]'(by omega), by simp [World.cell?, h4, h3, hi]⟩
theorem Core.frozen {W0 w : World} {n c : Nat} {t : TypeId} (h : Core W0 n c t w) (i : Nat) : w.frozen? ⟨n, i, none⟩ = false := by
  obtain ⟨_, _, vs, h3, h4⟩ := h
  simp [World.frozen?, h4]

/-- The type is in form, at most so deep. -/
def fits : Nat → F → Bool
  | 0, _ => false
  | r + 1, f => len f == 0 || (len f == 2 && (fits r (kid f 0) && fits r (kid f 1)))

end Go.Proofs.YtgpdnoghlommeaaGreatDoor

namespace Go.Proofs.YtgpdnoghlommeaaGreatDoor

open Go.RowKit Go.Deep

set_option maxHeartbeats 400000 in
theorem typeFits_any : ∀ (r : Nat) (f : F) (a : Option Addr) (cap : Nat) (lo : Nat) (w : World), r ≤ 100 → TA w lo f a →
    Calls Tryz.prog 114 #[.agg #[.slice a (len f) cap], .int .i64 r] w fun e w' => e = .returned (.bool (fits r f)) ∧ Ex w w'
  | 0, f, a, cap, lo, w, hr, hT => by
    go_enter Tryz.func114, Tryz.ntmps114
    go_wp2_with fail
    go_ret
    exact ⟨rfl, Ex.new _ _⟩
  | r + 1, f, a, cap, lo, w, hr, hT => by
    by_cases h0 : len f = 0
    · have h0' : ((len f : Int) == 0) = true := by simp [h0]
      go_enter Tryz.func114, Tryz.ntmps114
      go_wp2_with fail
      go_ret
      exact ⟨by simp [fits, h0], Ex.new _ _⟩
    · have h0' : ((len f : Int) == 0) = false := by simp [h0]
      by_cases h2 : len f = 2
      · have h2' : ((len f : Int) == 2) = true := by simp [h2]
        obtain ⟨b, o, rfl, hlo, hbs, hk⟩ := TA_at hT (by omega)
        obtain ⟨a0, c0, hc0, ht0⟩ := hk 0 (by omega)
        obtain ⟨a1, c1, hc1, ht1⟩ := hk 1 (by omega)
        rw [Nat.add_zero] at hc0
        have I0 : Hid _ := typeFits_any r (kid f 0) a0 c0 lo
        have I1 : Hid _ := typeFits_any r (kid f 1) a1 c1 lo
        have T0 : Hid _ := ht0
        have T1 : Hid _ := ht1
        clear hk hT ht0 ht1
        go_enter Tryz.func114, Tryz.ntmps114
        go_wp2_with fail
        refine (I0.out _ (by omega) (TA_below T0.out (Ex.new _ _))).mono ?_
        rintro e w1 ⟨rfl, hb1⟩
        have hx1 : Ex w w1 := (Ex.new _ _).trans hb1
        have hc1' := hx1.at hc1
        have hbx : w1.cell? ⟨w.heap.size, 0, none⟩ = some (.slice (some ⟨b, o, none⟩) 2 cap) := Ex.at hb1 (by simp)
        cases hf0 : fits r (kid f 0)
        · go_wp2_with fail
          go_ret
          exact ⟨by simp [fits, h2, hf0], hx1⟩
        · go_wp2_with fail
          refine (I1.out _ (by omega) (TA_below T1.out hx1)).mono ?_
          rintro e w2 ⟨rfl, hb2⟩
          go_wp2_with fail
          go_ret
          exact ⟨by simp [fits, h2, hf0], hx1.trans hb2⟩
      · have h2' : ((len f : Int) == 2) = false := by simp; omega
        go_enter Tryz.func114, Tryz.ntmps114
        go_wp2_with fail
        go_ret
        exact ⟨by simp [fits, h0, h2], Ex.new _ _⟩

end Go.Proofs.YtgpdnoghlommeaaGreatDoor

namespace Go.Proofs.YtgpdnoghlommeaaGreatDoor

open Go.RowKit Go.Deep

theorem fits_two {r : Nat} {f : F} (h : len f = 2) : fits (r + 1) f = (fits r (kid f 0) && fits r (kid f 1)) := by simp [fits, h]
theorem fits_nil {r : Nat} {f : F} (h : len f = 0) : fits (r + 1) f = true := by simp [fits, h]
theorem fits_no {r : Nat} {f : F} (h : len f ≠ 0) (h2 : len f ≠ 2) : fits r f = false := by cases r <;> simp [fits, h, h2]
theorem fits_all {r : Nat} {f : F} (hl : len f = 0 ∨ len f = 2) (h : ∀ j, j < len f → fits r (kid f j) = true) : fits (r + 1) f = true := by
  rcases hl with hl | hl
  · exact fits_nil hl
  · rw [fits_two hl, h 0 (by omega), h 1 (by omega)]; rfl
theorem fits_bad {r : Nat} {f : F} (hl : len f = 0 ∨ len f = 2) {j : Nat} (hj : j < len f) (h : fits r (kid f j) = false) : fits (r + 1) f = false := by
  rcases hl with hl | hl
  · omega
  · rw [fits_two hl]
    have : j = 0 ∨ j = 1 := by omega
    rcases this with rfl | rfl <;> simp [h]

set_option maxHeartbeats 400000 in
theorem l1Deep_any : ∀ (r : Nat) (d : Int) (f : F) (a : Option Addr) (cap : Nat) (lo : Nat) (w : World), d = r → r ≤ 100 → TA w lo f a →
    Calls Tryz.prog 52 #[.agg #[.slice a (len f) cap], .int .i64 d] w fun e w' => e = .returned (.bool (fits r f)) ∧ Ex w w'
  | 0, d, f, a, cap, lo, w, hd, hr, hT => by
    subst hd
    go_enter Tryz.func52, Tryz.ntmps52
    go_wp2_with fail
    go_ret
    exact ⟨rfl, Ex.new _ _⟩
  | r + 1, d, f, a, cap, lo, w, hd, hr, hT => by
    have T : Hid (TA w lo f a) := hT
    have I : Hid _ := l1Deep_any r
    have D : Hid (d = (r + 1 : Nat)) := hd
    have hd1 : 1 ≤ d := by omega
    have hd2 : d ≤ 100 := by omega
    have e1 : decide (d < 1) = false := by simp; omega
    clear hT hd
    by_cases hl : len f = 0 ∨ len f = 2
    · have L : Hid (len f = 0 ∨ len f = 2) := hl
      rcases hl with hl | hl
      · go_enter Tryz.func52, Tryz.ntmps52
        go_wp2_with fail
        go_loopw [5] (fun i wr => i = .int .i64 0 ∧ Ex (w.alloc (.cells #[.slice a (len f) cap] 55)) wr) (fun i _ => 0)
        case atStart => exact ⟨rfl, by rw [hl]; exact Ex.refl _⟩
        case round =>
          obtain ⟨rfl, hx⟩ := hrel
          have hbx : wr.cell? ⟨w.heap.size, 0, none⟩ = some (.slice a (len f) cap) := Ex.at hx (by simp)
          go_wp2_with fail
          go_ret
          exact ⟨ret_b (fits_nil hl).symm, (Ex.new _ _).trans hx⟩
      · have e0 : ((len f : Int) != 0) = true := by simp [hl]
        have e2 : ((len f : Int) != 2) = false := by simp [hl]
        have hb : len f ≤ 2 := by omega
        clear hl
        go_enter Tryz.func52, Tryz.ntmps52
        go_wp2_with fail
        go_loopw [5] (fun i wr => ∃ k : Nat, k ≤ len f ∧ i = .int .i64 k ∧ Ex (w.alloc (.cells #[.slice a (len f) cap] 55)) wr ∧ ∀ j, j < k → fits r (kid f j) = true) (fun i _ => len f - (intOf i).toNat)
        case atStart => exact ⟨0, Nat.zero_le _, rfl, Ex.refl _, fun j hj => by omega⟩
        case round =>
          obtain ⟨k, hk, rfl, hx, hfit⟩ := hrel
          have hbx : wr.cell? ⟨w.heap.size, 0, none⟩ = some (.slice a (len f) cap) := Ex.at hx (by simp)
          have hw : Ex w wr := (Ex.new _ _).trans hx
          have FT : Hid (∀ j, j < k → fits r (kid f j) = true) := hfit
          clear hfit
          by_cases hlt : k < len f
          · obtain ⟨b, o, rfl, hlo, hbs, hkk⟩ := TA_at (TA_below T.out hw) (by omega)
            obtain ⟨a0, c0, hc0, ht0⟩ := hkk k hlt
            clear hkk
            have T0 : Hid (TA wr lo (kid f k) a0) := ht0
            clear ht0
            go_wp2_with fail
            refine (I.out _ _ _ _ _ _ (by have := D.out; omega) (by omega) T0.out).mono ?_
            rintro e w1 ⟨rfl, hb1⟩
            cases hfk : fits r (kid f k)
            · go_wp2_with fail
              go_ret
              exact ⟨ret_b (fits_bad L.out hlt hfk).symm, hw.trans hb1⟩
            · go_wp2_with fail
              go_roundw
              case rel => exact ⟨k + 1, by omega, by go_num, hx.trans hb1, fun j hj => by
                by_cases hj' : j < k
                · exact FT.out j hj'
                · rw [show j = k by omega]; exact hfk⟩
              case measure => simp [intOf]; omega
          · go_wp2_with fail
            go_ret
            exact ⟨ret_b (fits_all L.out fun j hj => FT.out j (by omega)).symm, hw⟩
    · have e0 : ((len f : Int) != 0) = true := by simp; omega
      have e2 : ((len f : Int) != 2) = true := by simp; omega
      go_enter Tryz.func52, Tryz.ntmps52
      go_wp2_with fail
      go_ret
      exact ⟨ret_b (fits_no (by omega) (by omega)).symm, Ex.new _ _⟩

theorem iTypeOk_any (f : F) (a : Option Addr) (cap lo : Nat) (w : World) (h : TA w lo f a) :
    Calls Tryz.prog 83 #[.agg #[.slice a (len f) cap]] w fun e w' => e = .returned (.bool (fits 4 f)) ∧ Ex w w' := by
  have T : Hid (TA w lo f a) := h
  clear h
  go_enter Tryz.func83, Tryz.ntmps83
  go_wp2_with fail
  refine (typeFits_any 4 _ _ _ _ _ (by omega) (TA_below T.out (Ex.new _ _))).mono ?_
  rintro e w1 ⟨rfl, hb1⟩
  go_wp2_with fail
  go_ret
  exact ⟨rfl, (Ex.new _ _).trans hb1⟩

theorem sTypeOk_any (f : F) (a : Option Addr) (cap lo : Nat) (w : World) (h : TA w lo f a) :
    Calls Tryz.prog 23 #[.agg #[.slice a (len f) cap]] w fun e w' => e = .returned (.bool (fits 4 f)) ∧ Ex w w' := by
  have T : Hid (TA w lo f a) := h
  clear h
  go_enter Tryz.func23, Tryz.ntmps23
  go_wp2_with fail
  refine (l1Deep_any 4 _ _ _ _ _ _ rfl (by omega) (TA_below T.out (Ex.new _ _))).mono ?_
  rintro e w1 ⟨rfl, hb1⟩
  go_wp2_with fail
  go_ret
  exact ⟨rfl, (Ex.new _ _).trans hb1⟩

end Go.Proofs.YtgpdnoghlommeaaGreatDoor

namespace Go.Proofs.YtgpdnoghlommeaaGreatDoor

open Go.RowKit Go.Deep

attribute [local go_sem ↓] Go.wp_at_zero Go.wp_at_succ

theorem fits_len {r : Nat} {f : F} (h : fits r f = true) : len f = 0 ∨ len f = 2 := by
  by_cases h0 : len f = 0
  · exact Or.inl h0
  · by_cases h2 : len f = 2
    · exact Or.inr h2
    · rw [fits_no h0 h2] at h; cases h

set_option maxHeartbeats 1000000 in
theorem typeCopy_any : ∀ (r : Nat) (f : F) (a : Option Addr) (cap : Nat) (lo : Nat) (w : World), fits r f = true → TA w lo f a →
    Calls Tryz.prog 31 #[.agg #[.slice a (len f) cap]] w fun e w' => ∃ a' cap', e = .returned (.agg #[.slice a' (len f) cap']) ∧ TA w' w.heap.size f a' ∧ Ex w w'
  | 0, f, a, cap, lo, w, hf, hT => by simp [fits] at hf
  | r + 1, f, a, cap, lo, w, hf, hT => by
    by_cases h0 : len f = 0
    · have h0' : ((len f : Int) == 0) = true := by simp [h0]
      have H0 : Hid (len f = 0) := h0
      clear h0
      go_enter Tryz.func31, Tryz.ntmps31
      go_wp2_with fail
      refine bodyPost_ret (v := .agg #[.slice none 0 0]) (by simp [results, Tryz.results31, go_sem]) rfl ⟨none, 0, by rw [H0.out], Or.inl H0.out, ?_⟩
      exact ((Ex.new _ _).alloc _)
    · have h2 : len f = 2 := by have := fits_len hf; omega
      rw [fits_two h2, Bool.and_eq_true] at hf
      obtain ⟨b, o, rfl, hlo, hbs, hk⟩ := TA_at hT (by omega)
      obtain ⟨a0, c0, hc0, ht0⟩ := hk 0 (by omega)
      obtain ⟨a1, c1, hc1, ht1⟩ := hk 1 (by omega)
      rw [Nat.add_zero] at hc0
      have I0 : Hid _ := fun w' h => typeCopy_any r (kid f 0) a0 c0 lo w' hf.1 h
      have I1 : Hid _ := fun w' h => typeCopy_any r (kid f 1) a1 c1 lo w' hf.2 h
      have T0 : Hid (∀ w', Ex w w' → TA w' lo (kid f 0) a0) := fun _ h => TA_below ht0 h
      have T1 : Hid (∀ w', Ex w w' → TA w' lo (kid f 1) a1) := fun _ h => TA_below ht1 h
      have H2 : Hid (len f = 2) := h2
      have E0 : Hid (Ex w (w.alloc (.cells #[.slice (some ⟨b, o, none⟩) 2 cap] 55))) := Ex.new _ _
      have KS : Hid (∀ w', Core (w.alloc (.cells #[.slice (some ⟨b, o, none⟩) 2 cap] 55)) (w.heap.size + 1) 1 55 w' → (Core (w.alloc (.cells #[.slice (some ⟨b, o, none⟩) 2 cap] 55)) (w.heap.size + 1) 1 55 w' ∧ w'.cell? ⟨w.heap.size, 0, none⟩ = some (.slice (some ⟨b, o, none⟩) 2 cap) ∧ w'.cell? ⟨b, o, none⟩ = some (.slice a0 (len (kid f 0)) c0) ∧ w'.cell? ⟨b, o + 1, none⟩ = some (.slice a1 (len (kid f 1)) c1))) := fun w' h => ⟨h, Ex.at h.1 (by simp), Ex.at h.1 (Ex.at (Ex.new _ _) hc0), Ex.at h.1 (Ex.at (Ex.new _ _) hc1)⟩
      have C0 : Hid (Core (w.alloc (.cells #[.slice (some ⟨b, o, none⟩) 2 cap] 55)) (w.heap.size + 1) 1 55 ((w.alloc (.cells #[.slice (some ⟨b, o, none⟩) 2 cap] 55)).alloc (.cells #[.slice none 0 0] 55))) := by
        have := Core.start (w.alloc (.cells #[.slice (some ⟨b, o, none⟩) 2 cap] 55)) #[.slice none 0 0] 55
        rw [World.size_alloc] at this; exact this
      rw [h2]
      clear hk hT ht0 ht1 hf h2 h0
      go_enter Tryz.func31, Tryz.ntmps31
      go_wp2_with fail
      go_region_held3 (fun w' => Core (w.alloc (.cells #[.slice (some ⟨b, o, none⟩) 2 cap] 55)) (w.heap.size + 1) 1 55 w' ∧ w'.cell? ⟨w.heap.size, 0, none⟩ = some (.slice (some ⟨b, o, none⟩) 2 cap) ∧ w'.cell? ⟨b, o, none⟩ = some (.slice a0 (len (kid f 0)) c0) ∧ w'.cell? ⟨b, o + 1, none⟩ = some (.slice a1 (len (kid f 1)) c1)) ((refine KS.out _ ?_; first | exact Core.drew C0.out | exact Core.ex (And.left ‹Core _ _ _ _ _ ∧ _›) ‹Ex _ _› | exact Core.alloc (And.left ‹Core _ _ _ _ _ ∧ _›) _ | exact Core.set (And.left ‹Core _ _ _ _ _ ∧ _›) _ _ (by simp) _ | exact Core.alloc (Core.set (by assumption) _ _ (by simp) _) _)) (first | (go_at_call_of 31 (Value.slice a0 (len (kid f 0)) c0); refine (I0.out _ (T0.out _ (Ex.trans E0.out (And.left ‹Core _ _ _ _ _ ∧ _›).1))).mono ?_; rintro e w1 ⟨a0', c0', rfl, ht0', hb0⟩) | (go_at_call_of 31 (Value.slice a1 (len (kid f 1)) c1); refine (I1.out _ (T1.out _ (Ex.trans E0.out (And.left ‹Core _ _ _ _ _ ∧ _›).1))).mono ?_; rintro e w2 ⟨a1', c1', rfl, ht1', hb1⟩; have hcr := Core.ex (And.left ‹Core _ _ _ _ _ ∧ _›) hb1; obtain ⟨vr, hvr⟩ := hcr.cell 0 (by omega); have hfr := hcr.frozen 0; have hlr := hcr.lt))
      go_wp2_with fail
      have hz : w.heap.size + 2 ≤ w1.heap.size := by have := hb0.size; simpa using this
      have k1 : Kp (w.heap.size + 2) w1 ((w2.setCell ⟨w.heap.size + 1, 0, none⟩ (.slice (some ⟨w2.heap.size, 0, none⟩) 2 2)).alloc (.cells #[.slice a0' (len (kid f 0)) c0', .slice a1' (len (kid f 1)) c1'] 55)) := ((Kp.of_below hb1 _).set (Or.inl (by simp)) _).alloc _
      have k2 : Kp (w.heap.size + 2) w2 ((w2.setCell ⟨w.heap.size + 1, 0, none⟩ (.slice (some ⟨w2.heap.size, 0, none⟩) 2 2)).alloc (.cells #[.slice a0' (len (kid f 0)) c0', .slice a1' (len (kid f 1)) c1'] 55)) := ((Kp.refl _ _).set (Or.inl (by simp)) _).alloc _
      have f0 : TA ((w2.setCell ⟨w.heap.size + 1, 0, none⟩ (.slice (some ⟨w2.heap.size, 0, none⟩) 2 2)).alloc (.cells #[.slice a0' (len (kid f 0)) c0', .slice a1' (len (kid f 1)) c1'] 55)) w.heap.size (kid f 0) a0' := TA_lo (TA_kp (TA_lo ht0' (by simp)) k1) (by omega)
      have f1 : TA ((w2.setCell ⟨w.heap.size + 1, 0, none⟩ (.slice (some ⟨w2.heap.size, 0, none⟩) 2 2)).alloc (.cells #[.slice a0' (len (kid f 0)) c0', .slice a1' (len (kid f 1)) c1'] 55)) w.heap.size (kid f 1) a1' := TA_lo (TA_kp (TA_lo ht1' hz) k2) (by omega)
      have hres : ((w2.setCell ⟨w.heap.size + 1, 0, none⟩ (.slice (some ⟨w2.heap.size, 0, none⟩) 2 2)).alloc (.cells #[.slice a0' (len (kid f 0)) c0', .slice a1' (len (kid f 1)) c1'] 55)).cell? ⟨w.heap.size + 1, 0, none⟩ = some (.slice (some ⟨w2.heap.size, 0, none⟩) 2 2) := by
        rw [World.cell?_alloc_lt _ _ _ (by simpa using hlr)]; exact World.cell?_setCell_same _ _ _ hvr
      refine bodyPost_ret (v := .agg #[.slice (some ⟨w2.heap.size, 0, none⟩) 2 2]) (by simp [results, Tryz.results31, go_sem, hres]) rfl ⟨_, _, rfl, TA_two (k0 := c0') (k1 := c1') H2.out ?_ ?_ ?_ f0 f1, ?_⟩
      · omega
      · rw [cell_set_new]; rfl
      · rw [cell_set_new]; rfl
      · exact ((E0.out.trans hcr.1).set (by simp) _).alloc _

end Go.Proofs.YtgpdnoghlommeaaGreatDoor

namespace Go.Proofs.YtgpdnoghlommeaaGreatDoor

open Go.RowKit Go.Deep

/-- Numbers lie behind a slice's address, from block lo on. -/
def PA (w : World) (lo : Nat) (p : List Int) (a : Option Addr) : Prop := p.length = 0 ∨ ∃ b o, a = some ⟨b, o, none⟩ ∧ lo ≤ b ∧ ∀ i, i < p.length → w.cell? ⟨b, o + i, none⟩ = some (.int .i64 (p.getD i 0))

theorem PA_kp {w w' : World} {lo : Nat} {p : List Int} {a : Option Addr} (h : PA w lo p a) (hk : Kp lo w w') : PA w' lo p a := by
  rcases h with h | ⟨b, o, e, hb, hc⟩
  · exact Or.inl h
  · refine Or.inr ⟨b, o, e, hb, fun i hi => ?_⟩
    rw [hk.cell hb (World.block_lt_of_cell? _ _ (hc i hi))]; exact hc i hi
theorem PA_below {w w' : World} {lo : Nat} {p : List Int} {a : Option Addr} (h : PA w lo p a) (hb : Ex w w') : PA w' lo p a := PA_kp h (Kp.of_below hb lo)
theorem PA_lo {w : World} {lo lo' : Nat} {p : List Int} {a : Option Addr} (h : PA w lo p a) (hl : lo' ≤ lo) : PA w lo' p a := by
  rcases h with h | ⟨b, o, e, hb, hc⟩
  · exact Or.inl h
  · exact Or.inr ⟨b, o, e, Nat.le_trans hl hb, hc⟩
theorem PA_at {w : World} {lo : Nat} {p : List Int} {a : Option Addr} (h : PA w lo p a) (h0 : 0 < p.length) : ∃ b o, a = some ⟨b, o, none⟩ ∧ b < w.heap.size ∧ lo ≤ b ∧ ∀ i, i < p.length → w.cell? ⟨b, o + i, none⟩ = some (.int .i64 (p.getD i 0)) := by
  rcases h with h | ⟨b, o, e, hb, hc⟩
  · omega
  · exact ⟨b, o, e, World.block_lt_of_cell? _ _ (hc 0 h0), hb, hc⟩

theorem drop_cons (p : List Int) (k : Nat) (h : k < p.length) : p.drop k = p.getD k 0 :: p.drop (k + 1) := by
  rw [List.drop_eq_getElem_cons h]; simp [List.getD, h]

/-- The part by a path. -/
def partF : F → List Int → Option F
  | f, [] => some f
  | f, i :: p => if 0 ≤ i ∧ i < len f then partF (kid f i.toNat) p else none

theorem typeKids_any (a : Option Addr) (n cap : Nat) (w : World) :
    Calls Tryz.prog 153 #[.agg #[.slice a n cap]] w fun e w' => e = .returned (.slice a n cap) ∧ Ex w w' := by
  go_enter Tryz.func153, Tryz.ntmps153
  go_wp2_with fail
  go_ret
  exact ⟨rfl, Ex.new _ _⟩

set_option maxHeartbeats 1000000 in
theorem partAtT_any (f : F) (p : List Int) (a : Option Addr) (cap : Nat) (pa : Option Addr) (pc : Nat) (lo : Nat) (w : World) (hp : p.length ≤ 1000000000) (hT : TA w lo f a) (hP : PA w 0 p pa) :
    Calls Tryz.prog 152 #[.agg #[.slice a (len f) cap], .slice pa p.length pc, .func (.func 153) #[] #[]] w fun e w' =>
      (∃ g a' cap', partF f p = some g ∧ e = .returned (.tuple #[.agg #[.slice a' (len g) cap'], .bool true]) ∧ TA w' lo g a' ∧ Ex w w') ∨ (partF f p = none ∧ e = .returned (.tuple #[.agg #[.slice none 0 0], .bool false]) ∧ Ex w w') := by
  have T : Hid (TA w lo f a) := hT
  have P : Hid (PA w 0 p pa) := hP
  clear hT hP
  go_enter Tryz.func152, Tryz.ntmps152
  go_wp2_with fail
  go_loopw [14] (fun i wr => ∃ (k : Nat) (g : F) (a' : Option Addr) (cap' : Nat), k ≤ p.length ∧ i = .int .i64 k ∧ partF g (p.drop k) = partF f p ∧ TA w lo g a' ∧ Ex w wr ∧ wr.heap[w.heap.size]? = some (.cells #[.slice a' (len g) cap'] 55 (0, 0)) ∧ wr.heap[w.heap.size + 1]? = some (.cells #[.slice none 0 0] 55 (0, 0))) (fun i _ => p.length - (intOf i).toNat)
  case atStart => exact ⟨0, f, a, cap, Nat.zero_le _, rfl, rfl, T.out, (Ex.new _ _).alloc _, by rw [Below.heap_alloc _ _ _ (by simp)]; exact heap_alloc_new _ _, by rw [← World.size_alloc w (.cells #[.slice a (len f) cap] 55)]; exact heap_alloc_new _ _⟩
  case round =>
    obtain ⟨k, g, a', cap', hk, rfl, hpg, hg, hx, hbx, hrs⟩ := hrel
    have PG : Hid (partF g (p.drop k) = partF f p) := hpg
    have TG : Hid (TA w lo g a') := hg
    have c1 := cell_of_one hbx
    have c2 := free_of_one hbx
    have c3 := cell_of_one hrs
    have c4 := free_of_one hrs
    clear hpg hg
    by_cases hlt : k < p.length
    · obtain ⟨pb, po, rfl, hpb, _, hpc⟩ := PA_at (PA_below P.out hx) (by omega)
      obtain ⟨x, hxe⟩ : ∃ x, x = p.getD k 0 := ⟨_, rfl⟩
      have hck := hpc k hlt
      rw [← hxe] at hck
      have hpd : partF f p = if 0 ≤ x ∧ x < len g then partF (kid g x.toNat) (p.drop (k + 1)) else none := by
        rw [← PG.out, drop_cons p k hlt, ← hxe]; rfl
      have PD : Hid _ := hpd
      clear hpc hxe hpd
      go_wp2_with fail
      refine (typeKids_any _ _ _ _).mono ?_
      rintro e w1 ⟨rfl, hb1⟩
      have hbx1 := hb1.blk hbx
      have hrs1 := hb1.blk hrs
      have d1 := cell_of_one hbx1
      have d2 := free_of_one hbx1
      have d3 := cell_of_one hrs1
      have d4 := free_of_one hrs1
      have d5 := lt_of_block hrs1
      have hx1 : Ex w w1 := hx.trans hb1
      clear c1 c2 c3 c4 hbx hrs
      by_cases hxx : 0 ≤ x ∧ x < len g
      · obtain ⟨hx0, hxl⟩ := hxx
        have e0 : decide (x < 0) = false := by simp; omega
        obtain ⟨b, o, rfl, hlo, hbs, hkk⟩ := TA_at (TA_below TG.out hx1) (by omega)
        obtain ⟨a2, k2, hc2, ht2⟩ := hkk x.toNat (by omega)
        obtain ⟨b', o', e', _, _, hkk'⟩ := TA_at TG.out (by omega)
        obtain ⟨a3, k3, hc3, ht3⟩ := hkk' x.toNat (by omega)
        cases e'
        have e4 := (hx1.at hc3).symm.trans hc2
        injection e4 with e4
        injection e4 with e5 e6 e7
        subst e5 e7
        have T3 : Hid (TA w lo (kid g x.toNat) a3) := ht3
        clear hkk hkk' ht2 ht3 hc3 e6
        go_wp2_with fail
        go_roundw
        case rel =>
          exact ⟨k + 1, kid g x.toNat, a3, k3, by omega, by go_num, by rw [PD.out, if_pos ⟨hx0, hxl⟩], T3.out, hx1.set (Nat.le_refl _) _, one_setCell hbx1, by rw [Below.heap_setCell _ _ _ _ (by simp)]; exact hrs1⟩
        case measure => simp [intOf]; omega
      · have HN : Hid (partF f p = none) := by show _ = _; rw [PD.out, if_neg hxx]
        by_cases hx0 : x < 0
        · have e0 : decide (x < 0) = true := by simp; omega
          go_wp2_with fail
          have hres := res_at d3 (.slice none 0 0) (.cells #[.slice none 0 0] 55)
          exact bodyPost_ret (v := .tuple #[.agg #[.slice none 0 0], .bool false]) (by simp [results, Tryz.results152, go_sem, hres]) rfl (Or.inr ⟨HN.out, rfl, (hx1.set (Nat.le_succ _) _).alloc _⟩)
        · have e0 : decide (x < 0) = false := by simp; omega
          have e1 : (len g : Int) ≤ x := by omega
          go_wp2_with fail
          have hres := res_at d3 (.slice none 0 0) (.cells #[.slice none 0 0] 55)
          exact bodyPost_ret (v := .tuple #[.agg #[.slice none 0 0], .bool false]) (by simp [results, Tryz.results152, go_sem, hres]) rfl (Or.inr ⟨HN.out, rfl, (hx1.set (Nat.le_succ _) _).alloc _⟩)
    · have hd : p.drop k = [] := List.drop_eq_nil_of_le (by omega)
      have hs : partF f p = some g := by rw [← PG.out, hd]; rfl
      have HS : Hid (partF f p = some g) := hs
      clear hs hd
      go_wp2_with fail
      have hres := World.cell?_setCell_same wr ⟨w.heap.size + 1, 0, none⟩ (.slice a' (len g) cap') c3
      have hxf : Ex w (wr.setCell ⟨w.heap.size + 1, 0, none⟩ (.slice a' (len g) cap')) := hx.set (Nat.le_succ _) _
      exact bodyPost_ret (v := .tuple #[.agg #[.slice a' (len g) cap'], .bool true]) (by simp [results, Tryz.results152, go_sem, hres]) rfl (Or.inl ⟨g, a', cap', HS.out, rfl, TA_below TG.out hxf, hxf⟩)

theorem fits_part : ∀ (p : List Int) (r : Nat) (f g : F), fits r f = true → partF f p = some g → ∃ r', fits r' g = true
  | [], r, f, g, h, e => by cases e; exact ⟨r, h⟩
  | i :: p, r, f, g, h, e => by
    simp only [partF] at e
    split at e
    · rename_i hi
      cases r with
      | zero => simp [fits] at h
      | succ r =>
        have h2 : len f = 2 := by have := fits_len h; omega
        rw [fits_two h2, Bool.and_eq_true] at h
        have : i.toNat = 0 ∨ i.toNat = 1 := by omega
        rcases this with hi | hi <;> rw [hi] at e
        · exact fits_part p r _ g h.1 e
        · exact fits_part p r _ g h.2 e
    · cases e

theorem partAtT_one (f : F) (p : List Int) (a : Option Addr) (cap : Nat) (pa : Option Addr) (pc : Nat) (lo : Nat) (w : World) (hp : p.length ≤ 1000000000) (hT : TA w lo f a) (hP : PA w 0 p pa) :
    Calls Tryz.prog 152 #[.agg #[.slice a (len f) cap], .slice pa p.length pc, .func (.func 153) #[] #[]] w fun e w' =>
      ∃ (g : F) (ok : Bool) (a' : Option Addr) (cap' : Nat), (partF f p = some g ∧ ok = true ∨ partF f p = none ∧ g = .nil ∧ ok = false) ∧ e = .returned (.tuple #[.agg #[.slice a' (len g) cap'], .bool ok]) ∧ TA w' lo g a' ∧ Ex w w' :=
  (partAtT_any f p a cap pa pc lo w hp hT hP).mono fun e w' h => by
    rcases h with ⟨g, a', cap', h1, h2, h3, h4⟩ | ⟨h1, h2, h3⟩
    · exact ⟨g, true, a', cap', Or.inl ⟨h1, rfl⟩, h2, h3, h4⟩
    · exact ⟨.nil, false, none, 0, Or.inr ⟨h1, rfl, rfl⟩, h2, Or.inl rfl, h3⟩

/-- What TypeAt tells. -/
def typeAtR (f : F) (p : List Int) : F × Bool := match (if fits 4 f = true then partF f p else none) with
  | some g => (g, true)
  | none => (.nil, false)

end Go.Proofs.YtgpdnoghlommeaaGreatDoor

namespace Go.Proofs.YtgpdnoghlommeaaGreatDoor

open Go.RowKit Go.Deep

/-- A list of terms: each a kind, a number, a name, a path, and a list of terms. -/
abbrev TM := BT (Int × Int × ByteArray × List Int)

def tlen : TM → Nat
  | .nil => 0
  | .node _ _ (_, _, _, _) _ r => tlen r + 1
def tkid : TM → Nat → TM
  | .nil, _ => .nil
  | .node _ _ (_, _, _, _) k _, 0 => k
  | .node _ _ (_, _, _, _) _ r, i + 1 => tkid r i
def tkind : TM → Nat → Int
  | .nil, _ => 0
  | .node _ _ (k, _, _, _) _ _, 0 => k
  | .node _ _ (_, _, _, _) _ r, i + 1 => tkind r i
def tnum : TM → Nat → Int
  | .nil, _ => 0
  | .node _ _ (_, n, _, _) _ _, 0 => n
  | .node _ _ (_, _, _, _) _ r, i + 1 => tnum r i
def tname : TM → Nat → ByteArray
  | .nil, _ => ⟨#[]⟩
  | .node _ _ (_, _, s, _) _ _, 0 => s
  | .node _ _ (_, _, _, _) _ r, i + 1 => tname r i
def tpath : TM → Nat → List Int
  | .nil, _ => []
  | .node _ _ (_, _, _, p) _ _, 0 => p
  | .node _ _ (_, _, _, _) _ r, i + 1 => tpath r i
def tdep : TM → Nat
  | .nil => 0
  | .node _ _ (_, _, _, _) k r => max (tdep k + 1) (tdep r)

theorem tdep_kid : ∀ (f : TM) (i : Nat), i < tlen f → tdep (tkid f i) < tdep f
  | .nil, _, h => by simp [tlen] at h
  | .node _ _ (_, _, _, _) k r, 0, _ => by simp only [tkid, tdep]; omega
  | .node _ _ (_, _, _, _) k r, i + 1, h => by
    have := tdep_kid r i (by simp only [tlen] at h; omega)
    simp only [tkid, tdep]; omega

/-- Numbers lie behind an address, in a block of S. -/
def PS (w : World) (S : Nat → Prop) (p : List Int) (a : Option Addr) : Prop := p.length = 0 ∨ ∃ b o, a = some ⟨b, o, none⟩ ∧ S b ∧ ∀ i, i < p.length → w.cell? ⟨b, o + i, none⟩ = some (.int .i64 (p.getD i 0))

theorem PS_ks {w w' : World} {S : Nat → Prop} {p : List Int} {a : Option Addr} (h : PS w S p a) (hk : Ks S w w') : PS w' S p a := by
  rcases h with h | ⟨b, o, e, hb, hc⟩
  · exact Or.inl h
  · exact Or.inr ⟨b, o, e, hb, fun i hi => by rw [hk.cell hb (World.block_lt_of_cell? _ _ (hc i hi))]; exact hc i hi⟩
theorem PS_mono {w : World} {S S' : Nat → Prop} {p : List Int} {a : Option Addr} (h : PS w S p a) (hl : ∀ b, b < w.heap.size → S b → S' b) : PS w S' p a := by
  rcases h with h | ⟨b, o, e, hb, hc⟩
  · exact Or.inl h
  · by_cases h0 : p.length = 0
    · exact Or.inl h0
    · exact Or.inr ⟨b, o, e, hl b (World.block_lt_of_cell? _ _ (hc 0 (by omega))) hb, hc⟩
theorem PS_pa {w : World} {lo : Nat} {p : List Int} {a : Option Addr} : PS w (fun b => lo ≤ b) p a ↔ PA w lo p a := Iff.rfl

/-- A list of terms lies at block b from place o on: five cells each, its path and its own list behind the last two, all in blocks of S. -/
def MC (w : World) (S : Nat → Prop) : TM → Nat → Nat → Prop
  | .nil, _, _ => True
  | .node _ _ (k, n, s, p) f r, b, o => (w.cell? ⟨b, o, none⟩ = some (.int .i64 k) ∧ w.cell? ⟨b, o + 1, none⟩ = some (.int .i64 n) ∧ w.cell? ⟨b, o + 2, none⟩ = some (.string s) ∧ (∃ pa pc, w.cell? ⟨b, o + 3, none⟩ = some (.slice pa p.length pc) ∧ PS w S p pa ∧ p.length ≤ pc ∧ pc ≤ 9223372036854775807) ∧
      ∃ a cap, w.cell? ⟨b, o + 4, none⟩ = some (.slice a (tlen f) cap) ∧ (tlen f = 0 ∨ ∃ b' o', a = some ⟨b', o', none⟩ ∧ S b' ∧ MC w S f b' o')) ∧ MC w S r b (o + 5)

/-- A list of terms lies behind a slice's address. -/
def MS (w : World) (S : Nat → Prop) (f : TM) (a : Option Addr) : Prop := tlen f = 0 ∨ ∃ b o, a = some ⟨b, o, none⟩ ∧ S b ∧ MC w S f b o

/-- The five cells of a term. -/
def MT (w : World) (S : Nat → Prop) (f : TM) (i b o : Nat) : Prop :=
  w.cell? ⟨b, o, none⟩ = some (.int .i64 (tkind f i)) ∧ w.cell? ⟨b, o + 1, none⟩ = some (.int .i64 (tnum f i)) ∧ w.cell? ⟨b, o + 2, none⟩ = some (.string (tname f i)) ∧ (∃ pa pc, w.cell? ⟨b, o + 3, none⟩ = some (.slice pa (tpath f i).length pc) ∧ PS w S (tpath f i) pa ∧ (tpath f i).length ≤ pc ∧ pc ≤ 9223372036854775807) ∧
    ∃ a cap, w.cell? ⟨b, o + 4, none⟩ = some (.slice a (tlen (tkid f i)) cap) ∧ MS w S (tkid f i) a

theorem MC_cell {w : World} {S : Nat → Prop} : ∀ {f : TM} {b o : Nat}, MC w S f b o → ∀ i, i < tlen f → MT w S f i b (o + i * 5)
  | .nil, _, _, _, i, h => by simp [tlen] at h
  | .node _ _ (_, _, _, _) k r, b, o, hc, 0, _ => hc.1
  | .node _ _ (_, _, _, _) k r, b, o, hc, i + 1, h => by
    have := MC_cell hc.2 i (by simp only [tlen] at h; omega)
    rw [show o + 5 + i * 5 = o + (i + 1) * 5 by omega] at this
    exact this

theorem MC_mk {w : World} {S : Nat → Prop} : ∀ {f : TM} {b o : Nat}, (∀ i, i < tlen f → MT w S f i b (o + i * 5)) → MC w S f b o
  | .nil, _, _, _ => trivial
  | .node _ _ (_, _, _, _) k r, b, o, h => by
    refine ⟨h 0 (by simp [tlen]), MC_mk fun i hi => ?_⟩
    have := h (i + 1) (by simp only [tlen]; omega)
    rw [show o + (i + 1) * 5 = o + 5 + i * 5 by omega] at this
    exact this

theorem MC_ks {w w' : World} {S : Nat → Prop} (hk : Ks S w w') : ∀ {f : TM} {b o : Nat}, S b → MC w S f b o → MC w' S f b o
  | .nil, _, _, _, _ => trivial
  | .node _ _ (_, _, _, _) k r, b, o, hb, ⟨⟨h1, h2, h3, ⟨pa, pc, h4, h5⟩, a, cap, hc, hr⟩, hrest⟩ => by
    refine ⟨⟨?_, ?_, ?_, ⟨pa, pc, ?_, PS_ks h5.1 hk, h5.2⟩, a, cap, ?_, ?_⟩, MC_ks hk hb hrest⟩
    · rw [hk.cell hb (World.block_lt_of_cell? _ _ h1)]; exact h1
    · rw [hk.cell hb (World.block_lt_of_cell? _ _ h2)]; exact h2
    · rw [hk.cell hb (World.block_lt_of_cell? _ _ h3)]; exact h3
    · rw [hk.cell hb (World.block_lt_of_cell? _ _ h4)]; exact h4
    · rw [hk.cell hb (World.block_lt_of_cell? _ _ hc)]; exact hc
    · rcases hr with h0 | ⟨b', o', e, hb', ht⟩
      · exact Or.inl h0
      · exact Or.inr ⟨b', o', e, hb', MC_ks hk hb' ht⟩

theorem MS_ks {w w' : World} {S : Nat → Prop} {f : TM} {a : Option Addr} (h : MS w S f a) (hk : Ks S w w') : MS w' S f a := by
  rcases h with h | ⟨b, o, e, hb, ht⟩
  · exact Or.inl h
  · exact Or.inr ⟨b, o, e, hb, MC_ks hk hb ht⟩

theorem MC_mono {w : World} {S S' : Nat → Prop} (hl : ∀ b, b < w.heap.size → S b → S' b) : ∀ {f : TM} {b o : Nat}, MC w S f b o → MC w S' f b o
  | .nil, _, _, _ => trivial
  | .node _ _ (_, _, _, _) k r, b, o, ⟨⟨h1, h2, h3, ⟨pa, pc, h4, h5⟩, a, cap, hc, hr⟩, hrest⟩ => by
    refine ⟨⟨h1, h2, h3, ⟨pa, pc, h4, PS_mono h5.1 hl, h5.2⟩, a, cap, hc, ?_⟩, MC_mono hl hrest⟩
    rcases hr with h0 | ⟨b', o', e, hb', ht⟩
    · exact Or.inl h0
    · by_cases h0 : tlen k = 0
      · exact Or.inl h0
      · have hc' := (MC_cell ht 0 (by omega)).1
        exact Or.inr ⟨b', o', e, hl b' (World.block_lt_of_cell? _ _ hc') hb', MC_mono hl ht⟩

theorem MS_mono {w : World} {S S' : Nat → Prop} {f : TM} {a : Option Addr} (h : MS w S f a) (hl : ∀ b, b < w.heap.size → S b → S' b) : MS w S' f a := by
  rcases h with h | ⟨b, o, e, hb, ht⟩
  · exact Or.inl h
  · by_cases h0 : tlen f = 0
    · exact Or.inl h0
    · have hc' := (MC_cell ht 0 (by omega)).1
      exact Or.inr ⟨b, o, e, hl b (World.block_lt_of_cell? _ _ hc') hb, MC_mono hl ht⟩

theorem MS_at {w : World} {S : Nat → Prop} {f : TM} {a : Option Addr} (h : MS w S f a) (h0 : 0 < tlen f) : ∃ b o, a = some ⟨b, o, none⟩ ∧ S b ∧ b < w.heap.size ∧ ∀ i, i < tlen f → MT w S f i b (o + i * 5) := by
  rcases h with h | ⟨b, o, e, hb, ht⟩
  · omega
  · have hc := (MC_cell ht 0 h0).1
    exact ⟨b, o, e, hb, World.block_lt_of_cell? _ _ hc, fun i hi => MC_cell ht i hi⟩

theorem MS_mk {w : World} {S : Nat → Prop} {f : TM} {g o : Nat} (hg : S g) (h : ∀ i, i < tlen f → MT w S f i g (o + i * 5)) : MS w S f (some ⟨g, o, none⟩) :=
  Or.inr ⟨g, o, rfl, hg, MC_mk h⟩

/-- .. all from block lo on. -/
def MA (w : World) (lo : Nat) (f : TM) (a : Option Addr) : Prop := MS w (fun b => lo ≤ b) f a

theorem MA_kp {w w' : World} {lo : Nat} {f : TM} {a : Option Addr} (h : MA w lo f a) (hk : Kp lo w w') : MA w' lo f a := MS_ks h hk.block
theorem MA_lo {w : World} {lo lo' : Nat} {f : TM} {a : Option Addr} (h : MA w lo f a) (hl : lo' ≤ lo) : MA w lo' f a := MS_mono h fun _ _ hb => Nat.le_trans hl hb
theorem MA_below {w w' : World} {lo : Nat} {f : TM} {a : Option Addr} (h : MA w lo f a) (hb : Below w.heap.size w w') : MA w' lo f a := MA_kp h (Kp.of_below hb lo)
theorem MA_nil (w : World) (lo : Nat) (a : Option Addr) : MA w lo .nil a := Or.inl rfl
theorem MA_at {w : World} {lo : Nat} {f : TM} {a : Option Addr} (h : MA w lo f a) (h0 : 0 < tlen f) : ∃ b o, a = some ⟨b, o, none⟩ ∧ lo ≤ b ∧ b < w.heap.size ∧ ∀ i, i < tlen f → MT w (fun b => lo ≤ b) f i b (o + i * 5) := MS_at h h0

/-- All lists are of a length that can be counted. -/
def TSm : TM → Prop
  | .nil => True
  | .node _ _ (_, _, _, p) k r => p.length ≤ 1000000000 ∧ tlen k ≤ 1000000000 ∧ TSm k ∧ TSm r
theorem TSm_kid : ∀ {f : TM}, TSm f → ∀ i, i < tlen f → (tpath f i).length ≤ 1000000000 ∧ tlen (tkid f i) ≤ 1000000000 ∧ TSm (tkid f i)
  | .nil, _, i, h => by simp [tlen] at h
  | .node _ _ (_, _, _, _) k r, hs, 0, _ => ⟨hs.1, hs.2.1, hs.2.2.1⟩
  | .node _ _ (_, _, _, _) k r, hs, i + 1, h => TSm_kid hs.2.2.2 i (by simp only [tlen] at h; omega)

end Go.Proofs.YtgpdnoghlommeaaGreatDoor

namespace Go.Proofs.YtgpdnoghlommeaaGreatDoor

open Go.RowKit Go.Deep

/-- Of what was there only block rb has turned. -/
structure Fr (rb : Nat) (w w' : World) : Prop where
  os : w'.os = w.os
  tape : w'.tape = w.tape
  output : w'.output = w.output
  size : w.heap.size ≤ w'.heap.size
  block : ∀ k, k < w.heap.size → k ≠ rb → w'.heap[k]? = w.heap[k]?

theorem Fr.refl (rb : Nat) (w : World) : Fr rb w w := ⟨rfl, rfl, rfl, Nat.le_refl _, fun _ _ _ => rfl⟩
theorem Fr.trans {rb : Nat} {a b c : World} (h : Fr rb a b) (k : Fr rb b c) : Fr rb a c :=
  ⟨k.os.trans h.os, k.tape.trans h.tape, k.output.trans h.output, Nat.le_trans h.size k.size, fun i hi hn => (k.block i (Nat.lt_of_lt_of_le hi h.size) hn).trans (h.block i hi hn)⟩
theorem Fr.of_ex {w w' : World} (h : Ex w w') (rb : Nat) : Fr rb w w' := ⟨h.os, h.tape, h.output, h.size, fun k hk _ => h.block k hk⟩
theorem Fr.ex {rb : Nat} {a b c : World} (h : Fr rb a b) (k : Ex b c) : Fr rb a c := h.trans (Fr.of_ex k rb)
theorem Fr.alloc {rb : Nat} {a b : World} (h : Fr rb a b) (o : Obj) : Fr rb a (b.alloc o) := h.ex (Ex.new _ _)
theorem Fr.drew {rb : Nat} {a b : World} (h : Fr rb a b) : Fr rb a b.drew := ⟨h.os, h.tape, h.output, h.size, h.block⟩
theorem Fr.set {rb : Nat} {a b : World} (h : Fr rb a b) {p : Addr} (hp : p.block = rb ∨ a.heap.size ≤ p.block) (v : Value) : Fr rb a (b.setCell p v) :=
  ⟨h.os, h.tape, h.output, by rw [World.size_setCell]; exact h.size, fun k h1 h2 => by rw [Below.heap_setCell _ _ _ _ (by omega)]; exact h.block k h1 h2⟩
theorem Fr.kp {rb lo : Nat} {a b : World} (h : Fr rb a b) (hl : rb < lo) : Kp lo a b := ⟨h.size, fun k h1 h2 => h.block k h2 (by omega)⟩
theorem Fr.blk {rb : Nat} {a b : World} (h : Fr rb a b) {n : Nat} {o : Obj} (hn : n ≠ rb) (hc : a.heap[n]? = some o) : b.heap[n]? = some o := (h.block n (lt_of_block hc) hn).trans hc
theorem Fr.at {rb : Nat} {a b : World} (h : Fr rb a b) {p : Addr} {v : Value} (hn : p.block ≠ rb) (hc : a.cell? p = some v) : b.cell? p = some v :=
  (World.cell?_of_block (w := a) (h.block _ (World.block_lt_of_cell? _ _ hc) hn)).trans hc
theorem Fr.to_ex {rb : Nat} {w a b : World} (h : Fr rb a b) (hx : Ex w a) (hr : w.heap.size ≤ rb) : Ex w b :=
  ⟨h.os.trans hx.os, h.tape.trans hx.tape, h.output.trans hx.output, Nat.le_trans hx.size h.size, fun k hk => (h.block k (Nat.lt_of_lt_of_le hk hx.size) (by omega)).trans (hx.block k hk)⟩

theorem i64_xor_nat (a b : Nat) (ha : a < 4611686018427387904) (hb : b < 4611686018427387904) : bits .xor .i64 (a : Int) (b : Int) = ((a ^^^ b : Nat) : Int) := by
  have hx : a ^^^ b < 2 ^ 62 := Nat.xor_lt_two_pow (by omega) (by omega)
  have h1 : (BitVec.ofInt 64 (a : Int)).toNat = a := by
    rw [BitVec.ofInt_natCast, BitVec.toNat_ofNat]; exact Nat.mod_eq_of_lt (by omega)
  have h2 : (BitVec.ofInt 64 (b : Int)).toNat = b := by
    rw [BitVec.ofInt_natCast, BitVec.toNat_ofNat]; exact Nat.mod_eq_of_lt (by omega)
  show IntKind.i64.wrap ((BitVec.ofInt 64 (a : Int) ^^^ BitVec.ofInt 64 (b : Int)).toNat : Int) = _
  rw [BitVec.toNat_xor, h1, h2]
  simp [IntKind.wrap, IntKind.bits, IntKind.signed]
  omega

theorem pick_val (X n : Int) (h0 : 0 ≤ X) (h1 : X < 4611686018427387904) (hn : 1 ≤ n) : 0 ≤ (bits .xor .i64 X (wrap64 (X.tdiv 64))).tmod n ∧ (bits .xor .i64 X (wrap64 (X.tdiv 64))).tmod n < n := by
  obtain ⟨k, rfl⟩ := Int.eq_ofNat_of_zero_le h0
  have hd : wrap64 ((k : Int).tdiv 64) = ((k / 64 : Nat) : Int) := by
    rw [Int.tdiv_eq_ediv_of_nonneg (by omega)]; unfold wrap64; omega
  rw [hd, i64_xor_nat k (k / 64) (by omega) (by omega), Int.tmod_eq_emod_of_nonneg (by omega)]
  exact ⟨Int.emod_nonneg _ (by omega), Int.emod_lt_of_pos _ (by omega)⟩

theorem pick_x (x y : Int) (p m : Nat) (hx0 : 0 ≤ x) (hx1 : x ≤ 255) (hy0 : 0 ≤ y) (hy1 : y ≤ 255) (hp : p ≤ 1000000) :
    0 ≤ wrap64 (x * 131 + y * 1117 + (p : Int) * 29 + wrap64 (wrap64 ((p : Int) / (m : Int)) * 53)) ∧ wrap64 (x * 131 + y * 1117 + (p : Int) * 29 + wrap64 (wrap64 ((p : Int) / (m : Int)) * 53)) < 4611686018427387904 := by
  obtain ⟨q, hq, hq2⟩ : ∃ q : Nat, (p : Int) / (m : Int) = (q : Int) ∧ q ≤ p := ⟨p / m, rfl, Nat.div_le_self _ _⟩
  rw [hq]
  clear hq
  have w1 : wrap64 (q : Int) = q := by unfold wrap64; omega
  have w2 : wrap64 ((q : Int) * 53) = (q : Int) * 53 := by unfold wrap64; omega
  have w3 : wrap64 (x * 131 + y * 1117 + (p : Int) * 29 + (q : Int) * 53) = x * 131 + y * 1117 + (p : Int) * 29 + (q : Int) * 53 := by unfold wrap64; omega
  rw [w1, w2, w3]
  omega

end Go.Proofs.YtgpdnoghlommeaaGreatDoor

namespace Go.Proofs.YtgpdnoghlommeaaGreatDoor

open Go.RowKit Go.Deep

attribute [local go_sem ↓] Go.wp_at_zero Go.wp_at_succ

/-- Bytes lie behind a slice's address. -/
def By (w : World) (n : Nat) (ca : Option Addr) : Prop := n = 0 ∨ ∃ cb co, ca = some ⟨cb, co, none⟩ ∧ ∀ i, i < n → ∃ x : Int, w.cell? ⟨cb, co + i, none⟩ = some (.int .u8 x) ∧ 0 ≤ x ∧ x ≤ 255

theorem By.ex {w w' : World} {n : Nat} {ca : Option Addr} (h : By w n ca) (hx : Ex w w') : By w' n ca := by
  rcases h with h | ⟨cb, co, e, hc⟩
  · exact Or.inl h
  · exact Or.inr ⟨cb, co, e, fun i hi => by obtain ⟨x, h1, h2⟩ := hc i hi; exact ⟨x, hx.at h1, h2⟩⟩

/-- How many bytes are read at most. -/
def tk : Nat → Nat
  | 0 => 0
  | d + 1 => 2 * tk d + 1

end Go.Proofs.YtgpdnoghlommeaaGreatDoor

namespace Go.Proofs.YtgpdnoghlommeaaGreatDoor

open Go.RowKit Go.Deep

open Go.WideShapes (add_plain)

attribute [local go_sem ↓] Go.wp_at_zero Go.wp_at_succ

theorem fits_sm : ∀ (r : Nat) (f : F), fits r f = true → len f ≤ 2 ∧ Sm f
  | 0, f, h => by simp [fits] at h
  | r + 1, .nil, _ => ⟨by simp [len], trivial⟩
  | r + 1, .node b o n k (.nil), h => by simp [fits, len] at h
  | r + 1, .node b o n k (.node b' o' n' k' .nil), h => by
    simp [fits, len, kid] at h
    have h1 := fits_sm r k h.1
    have h2 := fits_sm r k' h.2
    exact ⟨by simp [len], ⟨by omega, h1.2, ⟨by omega, h2.2, trivial⟩⟩⟩
  | r + 1, .node b o n k (.node b' o' n' k' (.node _ _ _ _ _)), h => by simp [fits, len] at h

theorem fits_dep : ∀ (r : Nat) (f : F), fits r f = true → dep f < r
  | 0, f, h => by simp [fits] at h
  | r + 1, .nil, _ => by simp [dep]
  | r + 1, .node b o n k (.nil), h => by simp [fits, len] at h
  | r + 1, .node b o n k (.node b' o' n' k' .nil), h => by
    simp [fits, len, kid] at h
    have h1 := fits_dep r k h.1
    have h2 := fits_dep r k' h.2
    simp only [dep]; omega
  | r + 1, .node b o n k (.node b' o' n' k' (.node _ _ _ _ _)), h => by simp [fits, len] at h

theorem Sm_two {a b : F} (n m : Int) (ha : len a ≤ 1000000000 ∧ Sm a) (hb : len b ≤ 1000000000 ∧ Sm b) : len (two n a m b) ≤ 1000000000 ∧ Sm (two n a m b) :=
  ⟨by rw [len_two]; omega, ⟨ha.1, ha.2, ⟨hb.1, hb.2, trivial⟩⟩⟩

/-- One more behind. -/
def snoc : F → Int → F → F
  | .nil, n, k => .node 0 0 n k .nil
  | .node b o m k' r, n, k => .node b o m k' (snoc r n k)
theorem len_snoc : ∀ (f : F) (n : Int) (k : F), len (snoc f n k) = len f + 1
  | .nil, _, _ => rfl
  | .node _ _ _ _ r, n, k => by simp [snoc, len, len_snoc r n k]
theorem kid_snoc : ∀ (f : F) (n : Int) (k : F) (i : Nat), kid (snoc f n k) i = if i < len f then kid f i else if i = len f then k else .nil
  | .nil, n, k, 0 => by simp [snoc, kid, len]
  | .nil, n, k, i + 1 => by simp [snoc, kid, len]
  | .node _ _ _ _ r, n, k, 0 => by simp [snoc, kid, len]
  | .node _ _ _ _ r, n, k, i + 1 => by simp [snoc, kid, len, kid_snoc r n k i]
theorem dep_snoc : ∀ (f : F) (n : Int) (k : F), dep (snoc f n k) = max (dep f) (dep k + 1)
  | .nil, _, _ => by simp [snoc, dep]
  | .node _ _ _ k' r, n, k => by simp only [snoc, dep, dep_snoc r n k]; omega
theorem Sm_snoc : ∀ {f : F} (n : Int) {k : F}, Sm f → len k ≤ 1000000000 ∧ Sm k → Sm (snoc f n k)
  | .nil, _, _, _, hk => ⟨hk.1, hk.2, trivial⟩
  | .node _ _ _ _ _, n, _, hf, hk => ⟨hf.1, hf.2.1, Sm_snoc n hf.2.2 hk⟩

/-- The cells of a list of types. -/
theorem SA_olds {w : World} {S : Nat → Prop} {f : F} {a : Option Addr} (h : SA w S f a) : ∃ olds : List Value, olds.length = len f ∧ (∀ b, a = some b → ∀ j u, olds[j]? = some u → w.cell? (b.add j) = some u) ∧
    ∀ i, i < len f → ∃ a' cap, olds[i]? = some (.slice a' (len (kid f i)) cap) ∧ SA w S (kid f i) a' := by
  by_cases h0 : len f = 0
  · exact ⟨[], by simp [h0], by intro _ _ j u hu; simp at hu, fun i hi => by omega⟩
  · obtain ⟨b, o, rfl, _, _, hk⟩ := SA_at h (by omega)
    refine ⟨(List.range (len f)).map fun i => (w.cell? ⟨b, o + i, none⟩).getD default, by simp, ?_, ?_⟩
    · intro b' hb' j u hu
      cases hb'
      rw [List.getElem?_map] at hu
      by_cases hj : j < len f
      · rw [List.getElem?_range hj] at hu
        obtain ⟨a', cap, hc, _⟩ := hk j hj
        simp [hc] at hu
        subst hu
        rw [add_plain]; exact hc
      · rw [List.getElem?_eq_none (by simpa using hj)] at hu; simp at hu
    · intro i hi
      obtain ⟨a', cap, hc, ht⟩ := hk i hi
      exact ⟨a', cap, by rw [List.getElem?_map, List.getElem?_range hi]; simp [hc], ht⟩

theorem SA_snoc {w : World} {S : Nat → Prop} {f k : F} {n : Int} {olds : List Value} {g : Nat} {cur : Array Value} {e : TypeId} {a0 : Option Addr} {c0 : Nat} (hS : S g) (hg : w.heap[g]? = some (.cells cur e (0, 0)))
    (hcur : cur.toList.take (len f + 1) = olds ++ [.slice a0 (len k) c0]) (hl : olds.length = len f) (hk : ∀ i, i < len f → ∃ a' cap, olds[i]? = some (.slice a' (len (kid f i)) cap) ∧ SA w S (kid f i) a') (h0 : SA w S k a0) :
    SA w S (snoc f n k) (some ⟨g, 0, none⟩) := by
  refine SA_mk hS fun i hi => ?_
  rw [len_snoc] at hi
  have hcell : w.cell? ⟨g, 0 + i, none⟩ = (olds ++ [.slice a0 (len k) c0])[i]? := by
    rw [← hcur, List.getElem?_take_of_lt hi]
    simp [World.cell?, hg]
  rw [hcell, kid_snoc]
  by_cases h : i < len f
  · obtain ⟨a', cap, h1, h2⟩ := hk i h
    exact ⟨a', cap, by rw [List.getElem?_append_left (by omega), h1, if_pos h], by rw [if_pos h]; exact h2⟩
  · have e : i = len f := by omega
    exact ⟨a0, c0, by rw [List.getElem?_append_right (by omega), if_neg h, if_pos e]; simp [hl, e], by rw [if_neg h, if_pos e]; exact h0⟩

theorem Tryz.info55 : (Tryz.prog.info? 55).map (fun i => (i.zero, i.size, i.bytes)) = some (some (.agg #[.slice none 0 0]), 1, 24) := by kernel_rfl

end Go.Proofs.YtgpdnoghlommeaaGreatDoor
