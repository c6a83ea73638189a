/- Walks: bindings, bodies and functions counted by the exact laws. -/
import Derived.Test.YthdihpcpobhadaaDoorSZ1

import Derived.Test.YthdihpcpobhadaaDoorBD3

namespace Go.Proofs.YthdihpcpobhadaaDoor

open Go.RowKit Go.Deep

attribute [local go_sem ↓] Go.wp_at_zero Go.wp_at_succ

/-- All lists and names are of a length that is one. -/
def BLm : BD → Prop
  | .nil => True
  | .node _ _ _ _ .nil => True
  | .node _ _ (_, ns, fn, ts, tz, ez) tb (.node _ _ _ eb r) => ns.length ≤ 9223372036854775807 ∧ XLm ns ∧ fn.size ≤ 9223372036854775807 ∧ tlen ts ≤ 9223372036854775807 ∧ TLm ts ∧ blen tb ≤ 9223372036854775807 ∧ BLm tb ∧ tlen tz ≤ 9223372036854775807 ∧ TLm tz ∧ blen eb ≤ 9223372036854775807 ∧ BLm eb ∧ tlen ez ≤ 9223372036854775807 ∧ TLm ez ∧ BLm r
theorem BLm_at : ∀ {f : BD}, BLm f → ∀ i, i < blen f → (bnames f i).length ≤ 9223372036854775807 ∧ XLm (bnames f i) ∧ (bfn f i).size ≤ 9223372036854775807 ∧ tlen (bterms f i) ≤ 9223372036854775807 ∧ TLm (bterms f i) ∧ blen (bthen f i) ≤ 9223372036854775807 ∧ BLm (bthen f i) ∧ tlen (btsay f i) ≤ 9223372036854775807 ∧ TLm (btsay f i) ∧ blen (belse f i) ≤ 9223372036854775807 ∧ BLm (belse f i) ∧ tlen (besay f i) ≤ 9223372036854775807 ∧ TLm (besay f i)
  | .nil, _, i, h => by simp [blen] at h
  | .node _ _ _ _ .nil, _, i, h => by simp [blen] at h
  | .node _ _ (_, _, _, _, _, _) _ (.node _ _ _ _ r), hs, 0, _ => ⟨hs.1, hs.2.1, hs.2.2.1, hs.2.2.2.1, hs.2.2.2.2.1, hs.2.2.2.2.2.1, hs.2.2.2.2.2.2.1, hs.2.2.2.2.2.2.2.1, hs.2.2.2.2.2.2.2.2.1, hs.2.2.2.2.2.2.2.2.2.1, hs.2.2.2.2.2.2.2.2.2.2.1, hs.2.2.2.2.2.2.2.2.2.2.2.1, hs.2.2.2.2.2.2.2.2.2.2.2.2.1⟩
  | .node _ _ (_, _, _, _, _, _) _ (.node _ _ _ _ r), hs, i + 1, h => BLm_at hs.2.2.2.2.2.2.2.2.2.2.2.2.2 i (by simp only [blen] at h; omega)

/-- How much bindings count. -/
def bW : BD → Nat
  | .nil => 0
  | .node _ _ _ _ .nil => 0
  | .node _ _ (_, ns, fn, ts, tz, ez) tb (.node _ _ _ eb r) => 1 + (xW ns + fn.size + tW ts + (bW tb + tW tz) + (bW eb + tW ez)) + bW r
def bWk (f : BD) (j : Nat) : Nat := xW (bnames f j) + (bfn f j).size + tW (bterms f j) + (bW (bthen f j) + tW (btsay f j)) + (bW (belse f j) + tW (besay f j))
theorem bW_sum : ∀ f : BD, bW f = blen f + sumN (bWk f) (blen f)
  | .nil => rfl
  | .node _ _ _ _ .nil => rfl
  | .node a b (k, ns, fn, ts, tz, ez) tb (.node c d q eb r) => by
    have h : sumN (fun i => bWk (.node a b (k, ns, fn, ts, tz, ez) tb (.node c d q eb r)) (i + 1)) (blen r) = sumN (bWk r) (blen r) := sumN_eq _ fun i _ => rfl
    rw [blen, sumN_shift, h, bW, bW_sum r]
    show _ = _ + ((xW ns + fn.size + tW ts + (bW tb + tW tz) + (bW eb + tW ez)) + _)
    omega

def BSmTo (f : BD) (k : Nat) : Prop := ∀ j, j < k → (bnames f j).length ≤ 1048576 ∧ (tlen (bterms f j) ≤ 1048576 ∧ TSm (bterms f j)) ∧ ((blen (bthen f j) ≤ 1048576 ∧ BSm (bthen f j)) ∧ tlen (btsay f j) ≤ 1048576 ∧ TSm (btsay f j)) ∧ ((blen (belse f j) ≤ 1048576 ∧ BSm (belse f j)) ∧ tlen (besay f j) ≤ 1048576 ∧ TSm (besay f j))
theorem BSm_of : ∀ {f : BD}, BSmTo f (blen f) → BSm f
  | .nil, _ => trivial
  | .node _ _ _ _ .nil, _ => trivial
  | .node _ _ (_, ns, fn, ts, tz, ez) tb (.node _ _ _ eb r), h => by
    obtain ⟨h1, ⟨h2, h3⟩, ⟨⟨h4, h5⟩, h6, h7⟩, ⟨h8, h9⟩, ha, hb⟩ := h 0 (by simp [blen])
    simp only [bnames, bterms, bthen, btsay, belse, besay] at h1 h2 h3 h4 h5 h6 h7 h8 h9 ha hb
    exact ⟨by omega, by omega, h3, by omega, h5, by omega, h7, by omega, h9, by omega, hb, BSm_of fun j hj => h (j + 1) (by simp only [blen]; omega)⟩

/-- All lists and names of a function are of a length that is one. -/
def PLm (f : PM) : Prop := f.name.size ≤ 9223372036854775807 ∧ f.params.length ≤ 9223372036854775807 ∧ XLm f.params ∧ blen f.binds ≤ 9223372036854775807 ∧ BLm f.binds ∧ tlen f.says ≤ 9223372036854775807 ∧ TLm f.says
/-- All lists are of a length that can be counted. -/
def PSk (f : PM) : Prop := f.params.length ≤ 1048576 ∧ (blen f.binds ≤ 1048576 ∧ BSm f.binds) ∧ tlen f.says ≤ 1048576 ∧ TSm f.says
/-- How much a function counts, and how much functions. -/
def pW (f : PM) : Nat := f.name.size + xW f.params + (bW f.binds + tW f.says)
def qWk (l : List PM) (j : Nat) : Nat := pW (l.getD j pm0)
def qW (l : List PM) : Nat := l.length + sumN (qWk l) l.length
theorem qW_sum (l : List PM) : qW l = l.length + sumN (qWk l) l.length := rfl
def PSkTo (l : List PM) (k : Nat) : Prop := ∀ j, j < k → PSk (l.getD j pm0)

end Go.Proofs.YthdihpcpobhadaaDoor
