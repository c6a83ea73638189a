/- Walks: a part of a value by a path. -/
import Derived.Test.YtngheeeadekdmaaDoorV6

namespace Go.Proofs.YtngheeeadekdmaaDoor

open Go.RowKit Go.Deep

attribute [local go_sem ↓] Go.wp_at_zero Go.wp_at_succ

/-- The part of a value by a path. -/
def partV : Int → F → List Int → Option (Int × F)
  | n, f, [] => some (n, f)
  | _, f, i :: p => if 0 ≤ i ∧ i < len f then partV (num f i.toNat) (kid f i.toNat) p else none

theorem two_cell0 {w : World} {b : Nat} {u v : Value} {t : TypeId} (h : w.heap[b]? = some (.cells #[u, v] t (0, 0))) : w.cell? ⟨b, 0, none⟩ = some u := by simp [World.cell?, h]
theorem two_cell1 {w : World} {b : Nat} {u v : Value} {t : TypeId} (h : w.heap[b]? = some (.cells #[u, v] t (0, 0))) : w.cell? ⟨b, 1, none⟩ = some v := by simp [World.cell?, h]
theorem two_free {w : World} {b i : Nat} {u v : Value} {t : TypeId} (h : w.heap[b]? = some (.cells #[u, v] t (0, 0))) : w.frozen? ⟨b, i, none⟩ = false := by simp [World.frozen?, h]
theorem two_set {w : World} {b : Nat} {u v u' v' : Value} {t : TypeId} (h : w.heap[b]? = some (.cells #[u, v] t (0, 0))) : ((w.setCell ⟨b, 0, none⟩ u').setCell ⟨b, 1, none⟩ v').heap[b]? = some (.cells #[u', v'] t (0, 0)) := by
  simp [World.setCell, Array.getElem?_modify, h]

theorem partV_ok : ∀ (p : List Int) (r : Nat) (n : Int) (f u : F) (m : Int) (g : F), vType r n f = some u → partV n f p = some (m, g) → ∃ r' u', vType r' m g = some u'
  | [], r, n, f, u, m, g, h, e => by cases e; exact ⟨r, u, h⟩
  | i :: p, 0, n, f, u, m, g, h, e => by simp [vType] at h
  | i :: p, r + 1, n, f, u, m, g, h, e => by
    simp only [partV] at e
    split at e
    · rename_i hi
      obtain h0 | ⟨h2, _, a, b, ha, hb⟩ := vType_some h
      · omega
      · have : i.toNat = 0 ∨ i.toNat = 1 := by omega
        rcases this with hi | hi <;> rw [hi] at e
        · exact partV_ok p r _ _ a m g ha e
        · exact partV_ok p r _ _ b m g hb e
    · cases e

end Go.Proofs.YtngheeeadekdmaaDoor
