/- Cells of a block, set one behind the other. -/
import Derived.Test.YthdihpcpobhadaaDoorE3

namespace Go.Proofs.YthdihpcpobhadaaDoor

open Go.RowKit Go.Deep

attribute [local go_sem ↓] Go.wp_at_zero Go.wp_at_succ

/-- Values set in a row of cells. -/
def setL (w : World) (b : Nat) : Nat → List Value → World
  | _, [] => w
  | o, v :: r => setL (w.setCell ⟨b, o, none⟩ v) b (o + 1) r
def setA (cur : Array Value) : Nat → List Value → Array Value
  | _, [] => cur
  | o, v :: r => setA (cur.setIfInBounds o v) (o + 1) r
theorem setA_size : ∀ (vs : List Value) (cur : Array Value) (o : Nat), (setA cur o vs).size = cur.size
  | [], _, _ => rfl
  | v :: r, cur, o => by rw [setA, setA_size r]; simp
theorem setA_out : ∀ (vs : List Value) (cur : Array Value) (o i : Nat), i < o ∨ o + vs.length ≤ i → (setA cur o vs)[i]? = cur[i]?
  | [], _, _, _, _ => rfl
  | v :: r, cur, o, i, h => by
    simp only [List.length_cons] at h
    rw [setA, setA_out r _ _ _ (by omega), Array.getElem?_setIfInBounds_ne (by omega)]
theorem setA_in : ∀ (vs : List Value) (cur : Array Value) (o i : Nat) (v : Value), vs[i]? = some v → o + i < cur.size → (setA cur o vs)[o + i]? = some v
  | [], _, _, _, _, h, _ => by simp at h
  | u :: r, cur, o, 0, v, h, hs => by
    simp only [List.getElem?_cons_zero, Option.some.injEq] at h
    subst h
    rw [setA, setA_out r _ _ _ (by omega), Nat.add_zero, Array.getElem?_setIfInBounds_self, if_pos (by omega)]
  | u :: r, cur, o, i + 1, v, h, hs => by
    rw [setA, show o + (i + 1) = o + 1 + i by omega]
    exact setA_in r _ _ _ _ (by simpa using h) (by simp; omega)
theorem setA_all (vs : List Value) (cur : Array Value) (h : cur.size = vs.length) : setA cur 0 vs = vs.toArray := by
  refine Array.ext' (List.ext_getElem? fun i => ?_)
  rw [Array.getElem?_toList]
  rcases Nat.lt_or_ge i vs.length with hi | hi
  · have := setA_in vs cur 0 i vs[i] (by simp [hi]) (by omega)
    rw [Nat.zero_add] at this
    rw [this]; simp [hi]
  · rw [setA_out vs cur 0 i (Or.inr (by omega))]
    simp [hi, h]
theorem setL_size : ∀ (vs : List Value) (w : World) (b o : Nat), (setL w b o vs).heap.size = w.heap.size
  | [], _, _, _ => rfl
  | v :: r, w, b, o => by rw [setL, setL_size r, World.size_setCell]
theorem setL_blk : ∀ (vs : List Value) {w : World} {b o : Nat} {cur : Array Value} {t : TypeId}, w.heap[b]? = some (.cells cur t (0, 0)) → (setL w b o vs).heap[b]? = some (.cells (setA cur o vs) t (0, 0))
  | [], _, _, _, _, _, h => h
  | v :: r, w, b, o, cur, t, h => by
    rw [setL, setA]
    exact setL_blk r (by simp [World.setCell, Array.getElem?_modify, h])
theorem setL_other : ∀ (vs : List Value) {w : World} {b o n : Nat}, n ≠ b → (setL w b o vs).heap[n]? = w.heap[n]?
  | [], _, _, _, _, _ => rfl
  | v :: r, w, b, o, n, h => by rw [setL, setL_other r h, Below.heap_setCell _ _ _ _ (by simpa using h)]
theorem setL_ex : ∀ (vs : List Value) {a w : World} {b o : Nat}, Ex a w → a.heap.size ≤ b → Ex a (setL w b o vs)
  | [], _, _, _, _, h, _ => h
  | v :: r, a, w, b, o, h, hb => by rw [setL]; exact setL_ex r (h.set hb v) hb
theorem setL_kp : ∀ (vs : List Value) {lo : Nat} {a w : World} {b o : Nat}, Kp lo a w → (b < lo ∨ a.heap.size ≤ b) → Kp lo a (setL w b o vs)
  | [], _, _, _, _, _, h, _ => h
  | v :: r, lo, a, w, b, o, h, hb => by rw [setL]; exact setL_kp r (h.set hb v) hb
theorem blk_set {w : World} {n i : Nat} {vs : Array Value} {t : TypeId} (h : w.heap[n]? = some (.cells vs t (0, 0))) (v : Value) : (w.setCell ⟨n, i, none⟩ v).heap[n]? = some (.cells (vs.setIfInBounds i v) t (0, 0)) := by
  simp [World.setCell, Array.getElem?_modify, h]
theorem blk_off {w : World} {n m i : Nat} {o : Obj} (h : w.heap[n]? = some o) (hn : n ≠ m) (v : Value) : (w.setCell ⟨m, i, none⟩ v).heap[n]? = some o := by
  rw [Below.heap_setCell _ _ _ _ (by simpa using hn)]; exact h
theorem blk_cell {w : World} {n : Nat} {vs : Array Value} {t : TypeId} (h : w.heap[n]? = some (.cells vs t (0, 0))) (i : Nat) : w.cell? ⟨n, i, none⟩ = vs[i]? := by
  simp [World.cell?, h]
theorem blk_free {w : World} {n : Nat} {vs : Array Value} {t : TypeId} (h : w.heap[n]? = some (.cells vs t (0, 0))) (i : Nat) : w.frozen? ⟨n, i, none⟩ = false := by
  simp [World.frozen?, h]

end Go.Proofs.YthdihpcpobhadaaDoor
