/- Values as they lie in memory. -/
import Derived.Test.YtdlbfedepekkmaaW4

namespace Go.Proofs.Ytdlbfedepekkmaa

open Go.RowKit Go.Deep

/-- A list of values lies at block b from place o on: two cells each, its own list behind the second, all in blocks of S. -/
def VC (w : World) (S : Nat → Prop) : F → Nat → Nat → Prop
  | .nil, _, _ => True
  | .node _ _ n k r, b, o => (w.cell? ⟨b, o, none⟩ = some (.int .i64 n) ∧ ∃ a cap, w.cell? ⟨b, o + 1, none⟩ = some (.slice a (len k) cap) ∧ (len k = 0 ∨ ∃ b' o', a = some ⟨b', o', none⟩ ∧ S b' ∧ VC w S k b' o')) ∧ VC w S r b (o + 2)

/-- A list of values lies behind a slice's address. -/
def VS (w : World) (S : Nat → Prop) (f : F) (a : Option Addr) : Prop := len f = 0 ∨ ∃ b o, a = some ⟨b, o, none⟩ ∧ S b ∧ VC w S f b o

theorem VC_cell {w : World} {S : Nat → Prop} : ∀ {f : F} {b o : Nat}, VC w S f b o → ∀ i, i < len f → w.cell? ⟨b, o + i * 2, none⟩ = some (.int .i64 (num f i)) ∧ ∃ a cap, w.cell? ⟨b, o + i * 2 + 1, none⟩ = some (.slice a (len (kid f i)) cap) ∧ VS w S (kid f i) a
  | .nil, _, _, _, i, h => by simp [len] at h
  | .node _ _ _ k r, b, o, hc, 0, _ => hc.1
  | .node _ _ _ k r, b, o, hc, i + 1, h => by
    have := VC_cell hc.2 i (by simp only [len] at h; omega)
    rw [show o + 2 + i * 2 = o + (i + 1) * 2 by omega] at this
    exact this

theorem VC_mk {w : World} {S : Nat → Prop} : ∀ {f : F} {b o : Nat}, (∀ i, i < len f → w.cell? ⟨b, o + i * 2, none⟩ = some (.int .i64 (num f i)) ∧ ∃ a cap, w.cell? ⟨b, o + i * 2 + 1, none⟩ = some (.slice a (len (kid f i)) cap) ∧ VS w S (kid f i) a) → VC w S f b o
  | .nil, _, _, _ => trivial
  | .node _ _ _ k r, b, o, h => by
    refine ⟨h 0 (by simp [len]), VC_mk fun i hi => ?_⟩
    have := h (i + 1) (by simp only [len]; omega)
    rw [show o + (i + 1) * 2 = o + 2 + i * 2 by omega] at this
    exact this

theorem VC_ks {w w' : World} {S : Nat → Prop} (hk : Ks S w w') : ∀ {f : F} {b o : Nat}, S b → VC w S f b o → VC w' S f b o
  | .nil, _, _, _, _ => trivial
  | .node _ _ _ k r, b, o, hb, ⟨⟨hn, a, cap, hc, hr⟩, h2⟩ => by
    refine ⟨⟨?_, a, cap, ?_, ?_⟩, VC_ks hk hb h2⟩
    · rw [hk.cell hb (World.block_lt_of_cell? _ _ hn)]; exact hn
    · rw [hk.cell hb (World.block_lt_of_cell? _ _ hc)]; exact hc
    · rcases hr with h0 | ⟨b', o', e, hb', ht⟩
      · exact Or.inl h0
      · exact Or.inr ⟨b', o', e, hb', VC_ks hk hb' ht⟩

theorem VS_ks {w w' : World} {S : Nat → Prop} {f : F} {a : Option Addr} (h : VS w S f a) (hk : Ks S w w') : VS w' S f a := by
  rcases h with h | ⟨b, o, e, hb, ht⟩
  · exact Or.inl h
  · exact Or.inr ⟨b, o, e, hb, VC_ks hk hb ht⟩

theorem VC_mono {w : World} {S S' : Nat → Prop} (hl : ∀ b, b < w.heap.size → S b → S' b) : ∀ {f : F} {b o : Nat}, VC w S f b o → VC w S' f b o
  | .nil, _, _, _ => trivial
  | .node _ _ _ k r, b, o, ⟨⟨hn, a, cap, hc, hr⟩, h2⟩ => by
    refine ⟨⟨hn, a, cap, hc, ?_⟩, VC_mono hl h2⟩
    rcases hr with h0 | ⟨b', o', e, hb', ht⟩
    · exact Or.inl h0
    · by_cases h0 : len k = 0
      · exact Or.inl h0
      · have hc' := (VC_cell ht 0 (by omega)).1
        exact Or.inr ⟨b', o', e, hl b' (World.block_lt_of_cell? _ _ hc') hb', VC_mono hl ht⟩

theorem VS_mono {w : World} {S S' : Nat → Prop} {f : F} {a : Option Addr} (h : VS w S f a) (hl : ∀ b, b < w.heap.size → S b → S' b) : VS w S' f a := by
  rcases h with h | ⟨b, o, e, hb, ht⟩
  · exact Or.inl h
  · by_cases h0 : len f = 0
    · exact Or.inl h0
    · have hc' := (VC_cell ht 0 (by omega)).1
      exact Or.inr ⟨b, o, e, hl b (World.block_lt_of_cell? _ _ hc') hb, VC_mono hl ht⟩

theorem VS_at {w : World} {S : Nat → Prop} {f : F} {a : Option Addr} (h : VS w S f a) (h0 : 0 < len f) : ∃ b o, a = some ⟨b, o, none⟩ ∧ S b ∧ b < w.heap.size ∧
    ∀ i, i < len f → w.cell? ⟨b, o + i * 2, none⟩ = some (.int .i64 (num f i)) ∧ ∃ a' cap, w.cell? ⟨b, o + i * 2 + 1, none⟩ = some (.slice a' (len (kid f i)) cap) ∧ VS w S (kid f i) a' := by
  rcases h with h | ⟨b, o, e, hb, ht⟩
  · omega
  · have hc := (VC_cell ht 0 h0).1
    exact ⟨b, o, e, hb, World.block_lt_of_cell? _ _ hc, fun i hi => VC_cell ht i hi⟩

theorem VS_mk {w : World} {S : Nat → Prop} {f : F} {g o : Nat} (hg : S g) (h : ∀ i, i < len f → w.cell? ⟨g, o + i * 2, none⟩ = some (.int .i64 (num f i)) ∧ ∃ a cap, w.cell? ⟨g, o + i * 2 + 1, none⟩ = some (.slice a (len (kid f i)) cap) ∧ VS w S (kid f i) a) : VS w S f (some ⟨g, o, none⟩) :=
  Or.inr ⟨g, o, rfl, hg, VC_mk h⟩

/-- .. all from block lo on. -/
def VA (w : World) (lo : Nat) (f : F) (a : Option Addr) : Prop := VS w (fun b => lo ≤ b) f a

theorem VA_kp {w w' : World} {lo : Nat} {f : F} {a : Option Addr} (h : VA w lo f a) (hk : Kp lo w w') : VA w' lo f a := VS_ks h hk.block
theorem VA_lo {w : World} {lo lo' : Nat} {f : F} {a : Option Addr} (h : VA w lo f a) (hl : lo' ≤ lo) : VA w lo' f a := VS_mono h fun _ _ hb => Nat.le_trans hl hb
theorem VA_below {w w' : World} {lo : Nat} {f : F} {a : Option Addr} (h : VA w lo f a) (hb : Below w.heap.size w w') : VA w' lo f a := VA_kp h (Kp.of_below hb lo)
theorem VA_nil (w : World) (lo : Nat) (a : Option Addr) : VA w lo .nil a := Or.inl rfl
theorem VA_at {w : World} {lo : Nat} {f : F} {a : Option Addr} (h : VA w lo f a) (h0 : 0 < len f) : ∃ b o, a = some ⟨b, o, none⟩ ∧ lo ≤ b ∧ b < w.heap.size ∧
    ∀ i, i < len f → w.cell? ⟨b, o + i * 2, none⟩ = some (.int .i64 (num f i)) ∧ ∃ a' cap, w.cell? ⟨b, o + i * 2 + 1, none⟩ = some (.slice a' (len (kid f i)) cap) ∧ VA w lo (kid f i) a' := VS_at h h0
/-- A pair of two. -/
theorem VA_two {w : World} {lo : Nat} {f : F} (h2 : len f = 2) {g : Nat} (hg : lo ≤ g) {a0 a1 : Option Addr} {k0 k1 : Nat} (n0 : w.cell? ⟨g, 0, none⟩ = some (.int .i64 (num f 0))) (c0 : w.cell? ⟨g, 1, none⟩ = some (.slice a0 (len (kid f 0)) k0))
    (n1 : w.cell? ⟨g, 2, none⟩ = some (.int .i64 (num f 1))) (c1 : w.cell? ⟨g, 3, none⟩ = some (.slice a1 (len (kid f 1)) k1))
    (t0 : VA w lo (kid f 0) a0) (t1 : VA w lo (kid f 1) a1) : VA w lo f (some ⟨g, 0, none⟩) := by
  refine VS_mk hg fun i hi => ?_
  have : i = 0 ∨ i = 1 := by omega
  rcases this with rfl | rfl
  · exact ⟨n0, a0, k0, c0, t0⟩
  · exact ⟨n1, a1, k1, c1, t1⟩
/-- The two of a pair. -/
theorem VA_pair {w : World} {lo : Nat} {f : F} {a : Option Addr} (h : VA w lo f a) (h2 : len f = 2) : ∃ b o a0 a1 k0 k1, a = some ⟨b, o, none⟩ ∧ lo ≤ b ∧ b < w.heap.size ∧
    w.cell? ⟨b, o, none⟩ = some (.int .i64 (num f 0)) ∧ w.cell? ⟨b, o + 1, none⟩ = some (.slice a0 (len (kid f 0)) k0) ∧ w.cell? ⟨b, o + 2, none⟩ = some (.int .i64 (num f 1)) ∧ w.cell? ⟨b, o + 3, none⟩ = some (.slice a1 (len (kid f 1)) k1) ∧ VA w lo (kid f 0) a0 ∧ VA w lo (kid f 1) a1 := by
  obtain ⟨b, o, e, h1, h3, hk⟩ := VA_at h (by omega)
  obtain ⟨n0, a0, k0, c0, t0⟩ := hk 0 (by omega)
  obtain ⟨n1, a1, k1, c1, t1⟩ := hk 1 (by omega)
  exact ⟨b, o, a0, a1, k0, k1, e, h1, h3, n0, c0, n1, c1, t0, t1⟩

/-- The one type that a value in form is of, at most so deep. -/
def vType : Nat → Int → F → Option F
  | 0, _, _ => none
  | r + 1, n, f =>
    if len f = 0 then (if 0 ≤ n ∧ n ≤ 9999 then some .nil else none)
    else if len f = 2 ∧ n = 0 then
      (vType r (num f 0) (kid f 0)).bind fun a => (vType r (num f 1) (kid f 1)).bind fun b => some (two 0 a 0 b)
    else none

end Go.Proofs.Ytdlbfedepekkmaa
