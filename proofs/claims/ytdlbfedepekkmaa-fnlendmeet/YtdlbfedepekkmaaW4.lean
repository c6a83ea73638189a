/- Walks: a part of a type by a path. -/
import Derived.Test.YtdlbfedepekkmaaW3

import Derived.OneCell

namespace Go.Proofs.Ytdlbfedepekkmaa

open Go.RowKit Go.Deep

/-- Numbers lie behind a slice's address, from block lo on. -/
def PA (w : World) (lo : Nat) (p : List Int) (a : Option Addr) : Prop := p.length = 0 ∨ ∃ b o, a = some ⟨b, o, none⟩ ∧ lo ≤ b ∧ ∀ i, i < p.length → w.cell? ⟨b, o + i, none⟩ = some (.int .i64 (p.getD i 0))

theorem PA_kp {w w' : World} {lo : Nat} {p : List Int} {a : Option Addr} (h : PA w lo p a) (hk : Kp lo w w') : PA w' lo p a := by
  rcases h with h | ⟨b, o, e, hb, hc⟩
  · exact Or.inl h
  · refine Or.inr ⟨b, o, e, hb, fun i hi => ?_⟩
    rw [hk.cell hb (World.block_lt_of_cell? _ _ (hc i hi))]; exact hc i hi
theorem PA_below {w w' : World} {lo : Nat} {p : List Int} {a : Option Addr} (h : PA w lo p a) (hb : Ex w w') : PA w' lo p a := PA_kp h (Kp.of_below hb lo)
theorem PA_lo {w : World} {lo lo' : Nat} {p : List Int} {a : Option Addr} (h : PA w lo p a) (hl : lo' ≤ lo) : PA w lo' p a := by
  rcases h with h | ⟨b, o, e, hb, hc⟩
  · exact Or.inl h
  · exact Or.inr ⟨b, o, e, Nat.le_trans hl hb, hc⟩
theorem PA_at {w : World} {lo : Nat} {p : List Int} {a : Option Addr} (h : PA w lo p a) (h0 : 0 < p.length) : ∃ b o, a = some ⟨b, o, none⟩ ∧ b < w.heap.size ∧ lo ≤ b ∧ ∀ i, i < p.length → w.cell? ⟨b, o + i, none⟩ = some (.int .i64 (p.getD i 0)) := by
  rcases h with h | ⟨b, o, e, hb, hc⟩
  · omega
  · exact ⟨b, o, e, World.block_lt_of_cell? _ _ (hc 0 h0), hb, hc⟩

theorem drop_cons (p : List Int) (k : Nat) (h : k < p.length) : p.drop k = p.getD k 0 :: p.drop (k + 1) := by
  rw [List.drop_eq_getElem_cons h]; simp [List.getD, h]

/-- The part by a path. -/
def partF : F → List Int → Option F
  | f, [] => some f
  | f, i :: p => if 0 ≤ i ∧ i < len f then partF (kid f i.toNat) p else none

theorem fits_part : ∀ (p : List Int) (r : Nat) (f g : F), fits r f = true → partF f p = some g → ∃ r', fits r' g = true
  | [], r, f, g, h, e => by cases e; exact ⟨r, h⟩
  | i :: p, r, f, g, h, e => by
    simp only [partF] at e
    split at e
    · rename_i hi
      cases r with
      | zero => simp [fits] at h
      | succ r =>
        have h2 : len f = 2 := by have := fits_len h; omega
        rw [fits_two h2, Bool.and_eq_true] at h
        have : i.toNat = 0 ∨ i.toNat = 1 := by omega
        rcases this with hi | hi <;> rw [hi] at e
        · exact fits_part p r _ g h.1 e
        · exact fits_part p r _ g h.2 e
    · cases e

/-- What TypeAt tells. -/
def typeAtR (f : F) (p : List Int) : F × Bool := match (if fits 4 f = true then partF f p else none) with
  | some g => (g, true)
  | none => (.nil, false)

end Go.Proofs.Ytdlbfedepekkmaa
