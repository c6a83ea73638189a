/- Terms as they lie in memory. -/
import Derived.Test.YthdihpcpobhadaaDoorW4

namespace Go.Proofs.YthdihpcpobhadaaDoor

open Go.RowKit Go.Deep

/-- A list of terms: each a kind, a number, a name, a path, and a list of terms. -/
abbrev TM := BT (Int × Int × ByteArray × List Int)

def tlen : TM → Nat
  | .nil => 0
  | .node _ _ (_, _, _, _) _ r => tlen r + 1
def tkid : TM → Nat → TM
  | .nil, _ => .nil
  | .node _ _ (_, _, _, _) k _, 0 => k
  | .node _ _ (_, _, _, _) _ r, i + 1 => tkid r i
def tkind : TM → Nat → Int
  | .nil, _ => 0
  | .node _ _ (k, _, _, _) _ _, 0 => k
  | .node _ _ (_, _, _, _) _ r, i + 1 => tkind r i
def tnum : TM → Nat → Int
  | .nil, _ => 0
  | .node _ _ (_, n, _, _) _ _, 0 => n
  | .node _ _ (_, _, _, _) _ r, i + 1 => tnum r i
def tname : TM → Nat → ByteArray
  | .nil, _ => ⟨#[]⟩
  | .node _ _ (_, _, s, _) _ _, 0 => s
  | .node _ _ (_, _, _, _) _ r, i + 1 => tname r i
def tpath : TM → Nat → List Int
  | .nil, _ => []
  | .node _ _ (_, _, _, p) _ _, 0 => p
  | .node _ _ (_, _, _, _) _ r, i + 1 => tpath r i
def tdep : TM → Nat
  | .nil => 0
  | .node _ _ (_, _, _, _) k r => max (tdep k + 1) (tdep r)

theorem tdep_kid : ∀ (f : TM) (i : Nat), i < tlen f → tdep (tkid f i) < tdep f
  | .nil, _, h => by simp [tlen] at h
  | .node _ _ (_, _, _, _) k r, 0, _ => by simp only [tkid, tdep]; omega
  | .node _ _ (_, _, _, _) k r, i + 1, h => by
    have := tdep_kid r i (by simp only [tlen] at h; omega)
    simp only [tkid, tdep]; omega

/-- Numbers lie behind an address, in a block of S. -/
def PS (w : World) (S : Nat → Prop) (p : List Int) (a : Option Addr) : Prop := p.length = 0 ∨ ∃ b o, a = some ⟨b, o, none⟩ ∧ S b ∧ ∀ i, i < p.length → w.cell? ⟨b, o + i, none⟩ = some (.int .i64 (p.getD i 0))

theorem PS_ks {w w' : World} {S : Nat → Prop} {p : List Int} {a : Option Addr} (h : PS w S p a) (hk : Ks S w w') : PS w' S p a := by
  rcases h with h | ⟨b, o, e, hb, hc⟩
  · exact Or.inl h
  · exact Or.inr ⟨b, o, e, hb, fun i hi => by rw [hk.cell hb (World.block_lt_of_cell? _ _ (hc i hi))]; exact hc i hi⟩
theorem PS_mono {w : World} {S S' : Nat → Prop} {p : List Int} {a : Option Addr} (h : PS w S p a) (hl : ∀ b, b < w.heap.size → S b → S' b) : PS w S' p a := by
  rcases h with h | ⟨b, o, e, hb, hc⟩
  · exact Or.inl h
  · by_cases h0 : p.length = 0
    · exact Or.inl h0
    · exact Or.inr ⟨b, o, e, hl b (World.block_lt_of_cell? _ _ (hc 0 (by omega))) hb, hc⟩
theorem PS_pa {w : World} {lo : Nat} {p : List Int} {a : Option Addr} : PS w (fun b => lo ≤ b) p a ↔ PA w lo p a := Iff.rfl

/-- A list of terms lies at block b from place o on: five cells each, its path and its own list behind the last two, all in blocks of S. -/
def MC (w : World) (S : Nat → Prop) : TM → Nat → Nat → Prop
  | .nil, _, _ => True
  | .node _ _ (k, n, s, p) f r, b, o => (w.cell? ⟨b, o, none⟩ = some (.int .i64 k) ∧ w.cell? ⟨b, o + 1, none⟩ = some (.int .i64 n) ∧ w.cell? ⟨b, o + 2, none⟩ = some (.string s) ∧ (∃ pa pc, w.cell? ⟨b, o + 3, none⟩ = some (.slice pa p.length pc) ∧ PS w S p pa ∧ p.length ≤ pc ∧ pc ≤ 9223372036854775807) ∧
      ∃ a cap, w.cell? ⟨b, o + 4, none⟩ = some (.slice a (tlen f) cap) ∧ (tlen f = 0 ∨ ∃ b' o', a = some ⟨b', o', none⟩ ∧ S b' ∧ MC w S f b' o')) ∧ MC w S r b (o + 5)

/-- A list of terms lies behind a slice's address. -/
def MS (w : World) (S : Nat → Prop) (f : TM) (a : Option Addr) : Prop := tlen f = 0 ∨ ∃ b o, a = some ⟨b, o, none⟩ ∧ S b ∧ MC w S f b o

/-- The five cells of a term. -/
def MT (w : World) (S : Nat → Prop) (f : TM) (i b o : Nat) : Prop :=
  w.cell? ⟨b, o, none⟩ = some (.int .i64 (tkind f i)) ∧ w.cell? ⟨b, o + 1, none⟩ = some (.int .i64 (tnum f i)) ∧ w.cell? ⟨b, o + 2, none⟩ = some (.string (tname f i)) ∧ (∃ pa pc, w.cell? ⟨b, o + 3, none⟩ = some (.slice pa (tpath f i).length pc) ∧ PS w S (tpath f i) pa ∧ (tpath f i).length ≤ pc ∧ pc ≤ 9223372036854775807) ∧
    ∃ a cap, w.cell? ⟨b, o + 4, none⟩ = some (.slice a (tlen (tkid f i)) cap) ∧ MS w S (tkid f i) a

theorem MC_cell {w : World} {S : Nat → Prop} : ∀ {f : TM} {b o : Nat}, MC w S f b o → ∀ i, i < tlen f → MT w S f i b (o + i * 5)
  | .nil, _, _, _, i, h => by simp [tlen] at h
  | .node _ _ (_, _, _, _) k r, b, o, hc, 0, _ => hc.1
  | .node _ _ (_, _, _, _) k r, b, o, hc, i + 1, h => by
    have := MC_cell hc.2 i (by simp only [tlen] at h; omega)
    rw [show o + 5 + i * 5 = o + (i + 1) * 5 by omega] at this
    exact this

theorem MC_mk {w : World} {S : Nat → Prop} : ∀ {f : TM} {b o : Nat}, (∀ i, i < tlen f → MT w S f i b (o + i * 5)) → MC w S f b o
  | .nil, _, _, _ => trivial
  | .node _ _ (_, _, _, _) k r, b, o, h => by
    refine ⟨h 0 (by simp [tlen]), MC_mk fun i hi => ?_⟩
    have := h (i + 1) (by simp only [tlen]; omega)
    rw [show o + (i + 1) * 5 = o + 5 + i * 5 by omega] at this
    exact this

theorem MC_ks {w w' : World} {S : Nat → Prop} (hk : Ks S w w') : ∀ {f : TM} {b o : Nat}, S b → MC w S f b o → MC w' S f b o
  | .nil, _, _, _, _ => trivial
  | .node _ _ (_, _, _, _) k r, b, o, hb, ⟨⟨h1, h2, h3, ⟨pa, pc, h4, h5⟩, a, cap, hc, hr⟩, hrest⟩ => by
    refine ⟨⟨?_, ?_, ?_, ⟨pa, pc, ?_, PS_ks h5.1 hk, h5.2⟩, a, cap, ?_, ?_⟩, MC_ks hk hb hrest⟩
    · rw [hk.cell hb (World.block_lt_of_cell? _ _ h1)]; exact h1
    · rw [hk.cell hb (World.block_lt_of_cell? _ _ h2)]; exact h2
    · rw [hk.cell hb (World.block_lt_of_cell? _ _ h3)]; exact h3
    · rw [hk.cell hb (World.block_lt_of_cell? _ _ h4)]; exact h4
    · rw [hk.cell hb (World.block_lt_of_cell? _ _ hc)]; exact hc
    · rcases hr with h0 | ⟨b', o', e, hb', ht⟩
      · exact Or.inl h0
      · exact Or.inr ⟨b', o', e, hb', MC_ks hk hb' ht⟩

theorem MS_ks {w w' : World} {S : Nat → Prop} {f : TM} {a : Option Addr} (h : MS w S f a) (hk : Ks S w w') : MS w' S f a := by
  rcases h with h | ⟨b, o, e, hb, ht⟩
  · exact Or.inl h
  · exact Or.inr ⟨b, o, e, hb, MC_ks hk hb ht⟩

theorem MC_mono {w : World} {S S' : Nat → Prop} (hl : ∀ b, b < w.heap.size → S b → S' b) : ∀ {f : TM} {b o : Nat}, MC w S f b o → MC w S' f b o
  | .nil, _, _, _ => trivial
  | .node _ _ (_, _, _, _) k r, b, o, ⟨⟨h1, h2, h3, ⟨pa, pc, h4, h5⟩, a, cap, hc, hr⟩, hrest⟩ => by
    refine ⟨⟨h1, h2, h3, ⟨pa, pc, h4, PS_mono h5.1 hl, h5.2⟩, a, cap, hc, ?_⟩, MC_mono hl hrest⟩
    rcases hr with h0 | ⟨b', o', e, hb', ht⟩
    · exact Or.inl h0
    · by_cases h0 : tlen k = 0
      · exact Or.inl h0
      · have hc' := (MC_cell ht 0 (by omega)).1
        exact Or.inr ⟨b', o', e, hl b' (World.block_lt_of_cell? _ _ hc') hb', MC_mono hl ht⟩

theorem MS_mono {w : World} {S S' : Nat → Prop} {f : TM} {a : Option Addr} (h : MS w S f a) (hl : ∀ b, b < w.heap.size → S b → S' b) : MS w S' f a := by
  rcases h with h | ⟨b, o, e, hb, ht⟩
  · exact Or.inl h
  · by_cases h0 : tlen f = 0
    · exact Or.inl h0
    · have hc' := (MC_cell ht 0 (by omega)).1
      exact Or.inr ⟨b, o, e, hl b (World.block_lt_of_cell? _ _ hc') hb, MC_mono hl ht⟩

theorem MS_at {w : World} {S : Nat → Prop} {f : TM} {a : Option Addr} (h : MS w S f a) (h0 : 0 < tlen f) : ∃ b o, a = some ⟨b, o, none⟩ ∧ S b ∧ b < w.heap.size ∧ ∀ i, i < tlen f → MT w S f i b (o + i * 5) := by
  rcases h with h | ⟨b, o, e, hb, ht⟩
  · omega
  · have hc := (MC_cell ht 0 h0).1
    exact ⟨b, o, e, hb, World.block_lt_of_cell? _ _ hc, fun i hi => MC_cell ht i hi⟩

theorem MS_mk {w : World} {S : Nat → Prop} {f : TM} {g o : Nat} (hg : S g) (h : ∀ i, i < tlen f → MT w S f i g (o + i * 5)) : MS w S f (some ⟨g, o, none⟩) :=
  Or.inr ⟨g, o, rfl, hg, MC_mk h⟩

/-- .. all from block lo on. -/
def MA (w : World) (lo : Nat) (f : TM) (a : Option Addr) : Prop := MS w (fun b => lo ≤ b) f a

theorem MA_kp {w w' : World} {lo : Nat} {f : TM} {a : Option Addr} (h : MA w lo f a) (hk : Kp lo w w') : MA w' lo f a := MS_ks h hk.block
theorem MA_lo {w : World} {lo lo' : Nat} {f : TM} {a : Option Addr} (h : MA w lo f a) (hl : lo' ≤ lo) : MA w lo' f a := MS_mono h fun _ _ hb => Nat.le_trans hl hb
theorem MA_below {w w' : World} {lo : Nat} {f : TM} {a : Option Addr} (h : MA w lo f a) (hb : Below w.heap.size w w') : MA w' lo f a := MA_kp h (Kp.of_below hb lo)
theorem MA_nil (w : World) (lo : Nat) (a : Option Addr) : MA w lo .nil a := Or.inl rfl
theorem MA_at {w : World} {lo : Nat} {f : TM} {a : Option Addr} (h : MA w lo f a) (h0 : 0 < tlen f) : ∃ b o, a = some ⟨b, o, none⟩ ∧ lo ≤ b ∧ b < w.heap.size ∧ ∀ i, i < tlen f → MT w (fun b => lo ≤ b) f i b (o + i * 5) := MS_at h h0

/-- All lists are of a length that can be counted. -/
def TSm : TM → Prop
  | .nil => True
  | .node _ _ (_, _, _, p) k r => p.length ≤ 1000000000 ∧ tlen k ≤ 1000000000 ∧ TSm k ∧ TSm r
theorem TSm_kid : ∀ {f : TM}, TSm f → ∀ i, i < tlen f → (tpath f i).length ≤ 1000000000 ∧ tlen (tkid f i) ≤ 1000000000 ∧ TSm (tkid f i)
  | .nil, _, i, h => by simp [tlen] at h
  | .node _ _ (_, _, _, _) k r, hs, 0, _ => ⟨hs.1, hs.2.1, hs.2.2.1⟩
  | .node _ _ (_, _, _, _) k r, hs, i + 1, h => TSm_kid hs.2.2.2 i (by simp only [tlen] at h; omega)

end Go.Proofs.YthdihpcpobhadaaDoor
