/- Walks: types drawn, some spoilt. -/
import Derived.Test.YtdlbfedepekkmaaD2

namespace Go.Proofs.Ytdlbfedepekkmaa

open Go.RowKit Go.Deep

open Go.WideShapes (add_plain)

attribute [local go_sem ↓] Go.wp_at_zero Go.wp_at_succ

theorem fits_sm : ∀ (r : Nat) (f : F), fits r f = true → len f ≤ 2 ∧ Sm f
  | 0, f, h => by simp [fits] at h
  | r + 1, .nil, _ => ⟨by simp [len], trivial⟩
  | r + 1, .node b o n k (.nil), h => by simp [fits, len] at h
  | r + 1, .node b o n k (.node b' o' n' k' .nil), h => by
    simp [fits, len, kid] at h
    have h1 := fits_sm r k h.1
    have h2 := fits_sm r k' h.2
    exact ⟨by simp [len], ⟨by omega, h1.2, ⟨by omega, h2.2, trivial⟩⟩⟩
  | r + 1, .node b o n k (.node b' o' n' k' (.node _ _ _ _ _)), h => by simp [fits, len] at h

theorem fits_dep : ∀ (r : Nat) (f : F), fits r f = true → dep f < r
  | 0, f, h => by simp [fits] at h
  | r + 1, .nil, _ => by simp [dep]
  | r + 1, .node b o n k (.nil), h => by simp [fits, len] at h
  | r + 1, .node b o n k (.node b' o' n' k' .nil), h => by
    simp [fits, len, kid] at h
    have h1 := fits_dep r k h.1
    have h2 := fits_dep r k' h.2
    simp only [dep]; omega
  | r + 1, .node b o n k (.node b' o' n' k' (.node _ _ _ _ _)), h => by simp [fits, len] at h

theorem Sm_two {a b : F} (n m : Int) (ha : len a ≤ 1000000000 ∧ Sm a) (hb : len b ≤ 1000000000 ∧ Sm b) : len (two n a m b) ≤ 1000000000 ∧ Sm (two n a m b) :=
  ⟨by rw [len_two]; omega, ⟨ha.1, ha.2, ⟨hb.1, hb.2, trivial⟩⟩⟩

/-- One more behind. -/
def snoc : F → Int → F → F
  | .nil, n, k => .node 0 0 n k .nil
  | .node b o m k' r, n, k => .node b o m k' (snoc r n k)
theorem len_snoc : ∀ (f : F) (n : Int) (k : F), len (snoc f n k) = len f + 1
  | .nil, _, _ => rfl
  | .node _ _ _ _ r, n, k => by simp [snoc, len, len_snoc r n k]
theorem kid_snoc : ∀ (f : F) (n : Int) (k : F) (i : Nat), kid (snoc f n k) i = if i < len f then kid f i else if i = len f then k else .nil
  | .nil, n, k, 0 => by simp [snoc, kid, len]
  | .nil, n, k, i + 1 => by simp [snoc, kid, len]
  | .node _ _ _ _ r, n, k, 0 => by simp [snoc, kid, len]
  | .node _ _ _ _ r, n, k, i + 1 => by simp [snoc, kid, len, kid_snoc r n k i]
theorem dep_snoc : ∀ (f : F) (n : Int) (k : F), dep (snoc f n k) = max (dep f) (dep k + 1)
  | .nil, _, _ => by simp [snoc, dep]
  | .node _ _ _ k' r, n, k => by simp only [snoc, dep, dep_snoc r n k]; omega
theorem Sm_snoc : ∀ {f : F} (n : Int) {k : F}, Sm f → len k ≤ 1000000000 ∧ Sm k → Sm (snoc f n k)
  | .nil, _, _, _, hk => ⟨hk.1, hk.2, trivial⟩
  | .node _ _ _ _ _, n, _, hf, hk => ⟨hf.1, hf.2.1, Sm_snoc n hf.2.2 hk⟩

/-- The cells of a list of types. -/
theorem SA_olds {w : World} {S : Nat → Prop} {f : F} {a : Option Addr} (h : SA w S f a) : ∃ olds : List Value, olds.length = len f ∧ (∀ b, a = some b → ∀ j u, olds[j]? = some u → w.cell? (b.add j) = some u) ∧
    ∀ i, i < len f → ∃ a' cap, olds[i]? = some (.slice a' (len (kid f i)) cap) ∧ SA w S (kid f i) a' := by
  by_cases h0 : len f = 0
  · exact ⟨[], by simp [h0], by intro _ _ j u hu; simp at hu, fun i hi => by omega⟩
  · obtain ⟨b, o, rfl, _, _, hk⟩ := SA_at h (by omega)
    refine ⟨(List.range (len f)).map fun i => (w.cell? ⟨b, o + i, none⟩).getD default, by simp, ?_, ?_⟩
    · intro b' hb' j u hu
      cases hb'
      rw [List.getElem?_map] at hu
      by_cases hj : j < len f
      · rw [List.getElem?_range hj] at hu
        obtain ⟨a', cap, hc, _⟩ := hk j hj
        simp [hc] at hu
        subst hu
        rw [add_plain]; exact hc
      · rw [List.getElem?_eq_none (by simpa using hj)] at hu; simp at hu
    · intro i hi
      obtain ⟨a', cap, hc, ht⟩ := hk i hi
      exact ⟨a', cap, by rw [List.getElem?_map, List.getElem?_range hi]; simp [hc], ht⟩

theorem SA_snoc {w : World} {S : Nat → Prop} {f k : F} {n : Int} {olds : List Value} {g : Nat} {cur : Array Value} {e : TypeId} {a0 : Option Addr} {c0 : Nat} (hS : S g) (hg : w.heap[g]? = some (.cells cur e (0, 0)))
    (hcur : cur.toList.take (len f + 1) = olds ++ [.slice a0 (len k) c0]) (hl : olds.length = len f) (hk : ∀ i, i < len f → ∃ a' cap, olds[i]? = some (.slice a' (len (kid f i)) cap) ∧ SA w S (kid f i) a') (h0 : SA w S k a0) :
    SA w S (snoc f n k) (some ⟨g, 0, none⟩) := by
  refine SA_mk hS fun i hi => ?_
  rw [len_snoc] at hi
  have hcell : w.cell? ⟨g, 0 + i, none⟩ = (olds ++ [.slice a0 (len k) c0])[i]? := by
    rw [← hcur, List.getElem?_take_of_lt hi]
    simp [World.cell?, hg]
  rw [hcell, kid_snoc]
  by_cases h : i < len f
  · obtain ⟨a', cap, h1, h2⟩ := hk i h
    exact ⟨a', cap, by rw [List.getElem?_append_left (by omega), h1, if_pos h], by rw [if_pos h]; exact h2⟩
  · have e : i = len f := by omega
    exact ⟨a0, c0, by rw [List.getElem?_append_right (by omega), if_neg h, if_pos e]; simp [hl, e], by rw [if_neg h, if_pos e]; exact h0⟩

end Go.Proofs.Ytdlbfedepekkmaa
