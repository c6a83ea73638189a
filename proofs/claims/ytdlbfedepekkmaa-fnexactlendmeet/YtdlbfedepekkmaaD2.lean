/- Walks: codes opened, types drawn. -/
import Derived.Test.YtdlbfedepekkmaaD1

namespace Go.Proofs.Ytdlbfedepekkmaa

open Go.RowKit Go.Deep

attribute [local go_sem ↓] Go.wp_at_zero Go.wp_at_succ

/-- Bytes lie behind a slice's address. -/
def By (w : World) (n : Nat) (ca : Option Addr) : Prop := n = 0 ∨ ∃ cb co, ca = some ⟨cb, co, none⟩ ∧ ∀ i, i < n → ∃ x : Int, w.cell? ⟨cb, co + i, none⟩ = some (.int .u8 x) ∧ 0 ≤ x ∧ x ≤ 255

theorem By.ex {w w' : World} {n : Nat} {ca : Option Addr} (h : By w n ca) (hx : Ex w w') : By w' n ca := by
  rcases h with h | ⟨cb, co, e, hc⟩
  · exact Or.inl h
  · exact Or.inr ⟨cb, co, e, fun i hi => by obtain ⟨x, h1, h2⟩ := hc i hi; exact ⟨x, hx.at h1, h2⟩⟩

theorem Rd.start {w : World} {n : Nat} {ca : Option Addr} {cc : Nat} (h : By w n ca) (hn : n ≤ 2000) : Rd (w.alloc (.cells #[.slice ca n cc, .int .i64 0] 43)) w.heap.size 0 := by
  refine ⟨ca, n, cc, heap_alloc_new _ _, hn, ?_⟩
  rcases h with h | ⟨cb, co, e, hc⟩
  · exact Or.inl h
  · by_cases h0 : n = 0
    · exact Or.inl h0
    · refine Or.inr ⟨cb, co, e, ?_, fun i hi => by obtain ⟨x, h1, h2⟩ := hc i hi; exact ⟨x, (Ex.new _ _).at h1, h2⟩⟩
      obtain ⟨x, h1, _⟩ := hc 0 (by omega)
      have : cb < w.heap.size := World.block_lt_of_cell? _ _ h1
      omega

theorem Rd.set {w : World} {rb p : Nat} (h : Rd w rb p) {q : Addr} (hq : rb < q.block) (v : Value) : Rd (w.setCell q v) rb p := by
  obtain ⟨ca, n, cc, h1, h2, h3⟩ := h
  refine ⟨ca, n, cc, by rw [Below.heap_setCell _ _ _ _ (by omega)]; exact h1, h2, ?_⟩
  rcases h3 with h3 | ⟨cb, co, h4, h5, h6⟩
  · exact Or.inl h3
  · refine Or.inr ⟨cb, co, h4, h5, fun i hi => ?_⟩
    obtain ⟨x, hc, hx0⟩ := h6 i hi
    exact ⟨x, by rw [World.cell?_setCell_other _ _ _ _ (fun e => absurd (congrArg Addr.block e) (by show q.block ≠ cb; omega))]; exact hc, hx0⟩

theorem l6Open_any (n cc : Nat) (ca : Option Addr) (w : World) (hn : n ≤ cc) (hc : cc ≤ 9223372036854775807) (hB : By w n ca) :
    Calls Try.prog 11 #[.slice ca n cc] w fun e w' => e = .returned (.pointer (some ⟨w.heap.size, 0, none⟩)) ∧ Rd w' w.heap.size 0 ∧ Ex w w' := by
  have B : Hid (By w n ca) := hB
  clear hB
  by_cases h : n ≤ 2000
  · go_enter Try.func11, Try.ntmps11
    go_wp2_with fail
    go_ret
    exact ⟨rfl, Rd.start B.out h, Ex.new _ _⟩
  · have h0 : (2000 : Int) ≤ (cc : Int) := by omega
    obtain ⟨cb, co, rfl, hcc⟩ : ∃ cb co, ca = some ⟨cb, co, none⟩ ∧ ∀ i, i < n → ∃ x : Int, w.cell? ⟨cb, co + i, none⟩ = some (.int .u8 x) ∧ 0 ≤ x ∧ x ≤ 255 := by
      rcases B.out with h | h
      · omega
      · exact h
    have B2 : Hid (By w 2000 (some ⟨cb, co, none⟩)) := Or.inr ⟨cb, co, rfl, fun i hi => hcc i (by omega)⟩
    clear hcc B
    go_enter Try.func11, Try.ntmps11
    go_wp2_with fail
    go_ret
    exact ⟨rfl, Rd.start B2.out (Nat.le_refl _), Ex.new _ _⟩

theorem Rd.blk {w : World} {rb p : Nat} (h : Rd w rb p) : rb < w.heap.size := by
  obtain ⟨_, _, _, h1, _⟩ := h
  exact lt_of_block h1

/-- How many bytes are read at most. -/
def tk : Nat → Nat
  | 0 => 0
  | d + 1 => 2 * tk d + 1

end Go.Proofs.Ytdlbfedepekkmaa
