/- Walks: codes opened, types drawn. -/
import Derived.Test.YthdihpcpobhadaaDoorD1

namespace Go.Proofs.YthdihpcpobhadaaDoor

open Go.RowKit Go.Deep

attribute [local go_sem ↓] Go.wp_at_zero Go.wp_at_succ

/-- Bytes lie behind a slice's address. -/
def By (w : World) (n : Nat) (ca : Option Addr) : Prop := n = 0 ∨ ∃ cb co, ca = some ⟨cb, co, none⟩ ∧ ∀ i, i < n → ∃ x : Int, w.cell? ⟨cb, co + i, none⟩ = some (.int .u8 x) ∧ 0 ≤ x ∧ x ≤ 255

theorem By.ex {w w' : World} {n : Nat} {ca : Option Addr} (h : By w n ca) (hx : Ex w w') : By w' n ca := by
  rcases h with h | ⟨cb, co, e, hc⟩
  · exact Or.inl h
  · exact Or.inr ⟨cb, co, e, fun i hi => by obtain ⟨x, h1, h2⟩ := hc i hi; exact ⟨x, hx.at h1, h2⟩⟩

theorem Rd.start {w : World} {n : Nat} {ca : Option Addr} {cc : Nat} (h : By w n ca) (hn : n ≤ 2000) : Rd (w.alloc (.cells #[.slice ca n cc, .int .i64 0] 93)) w.heap.size 0 := by
  refine ⟨ca, n, cc, heap_alloc_new _ _, hn, ?_⟩
  rcases h with h | ⟨cb, co, e, hc⟩
  · exact Or.inl h
  · by_cases h0 : n = 0
    · exact Or.inl h0
    · refine Or.inr ⟨cb, co, e, ?_, fun i hi => by obtain ⟨x, h1, h2⟩ := hc i hi; exact ⟨x, (Ex.new _ _).at h1, h2⟩⟩
      obtain ⟨x, h1, _⟩ := hc 0 (by omega)
      have : cb < w.heap.size := World.block_lt_of_cell? _ _ h1
      omega

theorem Rd.set {w : World} {rb p : Nat} (h : Rd w rb p) {q : Addr} (hq : rb < q.block) (v : Value) : Rd (w.setCell q v) rb p := by
  obtain ⟨ca, n, cc, h1, h2, h3⟩ := h
  refine ⟨ca, n, cc, by rw [Below.heap_setCell _ _ _ _ (by omega)]; exact h1, h2, ?_⟩
  rcases h3 with h3 | ⟨cb, co, h4, h5, h6⟩
  · exact Or.inl h3
  · refine Or.inr ⟨cb, co, h4, h5, fun i hi => ?_⟩
    obtain ⟨x, hc, hx0⟩ := h6 i hi
    exact ⟨x, by rw [World.cell?_setCell_other _ _ _ _ (fun e => absurd (congrArg Addr.block e) (by show q.block ≠ cb; omega))]; exact hc, hx0⟩

theorem l6Open_any (n cc : Nat) (ca : Option Addr) (w : World) (hn : n ≤ cc) (hc : cc ≤ 9223372036854775807) (hB : By w n ca) :
    Calls Tryd.prog 28 #[.slice ca n cc] w fun e w' => e = .returned (.pointer (some ⟨w.heap.size, 0, none⟩)) ∧ Rd w' w.heap.size 0 ∧ Ex w w' := by
  have B : Hid (By w n ca) := hB
  clear hB
  by_cases h : n ≤ 2000
  · go_enter Tryd.func28, Tryd.ntmps28
    go_wp2_with fail
    go_ret
    exact ⟨rfl, Rd.start B.out h, Ex.new _ _⟩
  · have h0 : (2000 : Int) ≤ (cc : Int) := by omega
    obtain ⟨cb, co, rfl, hcc⟩ : ∃ cb co, ca = some ⟨cb, co, none⟩ ∧ ∀ i, i < n → ∃ x : Int, w.cell? ⟨cb, co + i, none⟩ = some (.int .u8 x) ∧ 0 ≤ x ∧ x ≤ 255 := by
      rcases B.out with h | h
      · omega
      · exact h
    have B2 : Hid (By w 2000 (some ⟨cb, co, none⟩)) := Or.inr ⟨cb, co, rfl, fun i hi => hcc i (by omega)⟩
    clear hcc B
    go_enter Tryd.func28, Tryd.ntmps28
    go_wp2_with fail
    go_ret
    exact ⟨rfl, Rd.start B2.out (Nat.le_refl _), Ex.new _ _⟩

theorem Rd.blk {w : World} {rb p : Nat} (h : Rd w rb p) : rb < w.heap.size := by
  obtain ⟨_, _, _, h1, _⟩ := h
  exact lt_of_block h1

/-- How many bytes are read at most. -/
def tk : Nat → Nat
  | 0 => 0
  | d + 1 => 2 * tk d + 1

set_option maxHeartbeats 1000000 in
theorem l71Type_any : ∀ (d : Nat) (D : Int) (rb p : Nat) (w : World), D = ((d + 1 : Nat) : Int) → d ≤ 8 → p + tk d ≤ 100000 → Rd w rb p →
    Calls Tryd.prog 29 #[.pointer (some ⟨rb, 0, none⟩), .int .i64 D] w fun e w' => ∃ (f : F) (a : Option Addr) (q : Nat), e = .returned (.agg #[.slice a (len f) (len f)]) ∧ TA w' w.heap.size f a ∧ (len f = 0 → a = none) ∧ fits (d + 1) f = true ∧ p ≤ q ∧ q ≤ p + tk d ∧ Rd w' rb q ∧ Fr rb w w'
  | 0, D, rb, p, w, hD, hd, hp, hR => by
    subst hD
    go_enter Tryd.func29, Tryd.ntmps29
    go_wp2_with fail
    exact bodyPost_ret (v := .agg #[.slice none 0 0]) (by simp [results, Tryd.results29, go_sem]) rfl ⟨.nil, none, p, rfl, Or.inl rfl, fun _ => rfl, rfl, Nat.le_refl _, by omega, hR.ex (Ex.new _ _), Fr.of_ex (Ex.new _ _) _⟩
  | d + 1, D, rb, p, w, hD, hd, hp, hR => by
    have R : Hid (Rd w rb p) := hR
    have I : Hid _ := l71Type_any d
    have HD : Hid (D = ((d + 1 + 1 : Nat) : Int)) := hD
    have e1 : decide (D < 2) = false := by simp; omega
    have hD1 : 2 ≤ D := by omega
    have hD2 : D ≤ 100 := by omega
    have hrb := hR.blk
    simp only [tk] at hp
    clear hR hD
    go_enter Tryd.func29, Tryd.ntmps29
    go_wp2_with fail
    refine (pick_any rb p 3 _ (by omega) (by omega) (by omega) (R.out.ex (Ex.new _ _))).mono ?_
    rintro e w1 ⟨x, rfl, hx0, hx3, hR1, hF1⟩
    have hres1 : w1.heap[w.heap.size]? = some (.cells #[.slice none 0 0] 32 (0, 0)) := hF1.blk (by omega) (heap_alloc_new _ _)
    have R1 : Hid (Rd w1 rb (p + 1)) := hR1
    have F1 : Hid (Fr rb w w1) := Fr.trans (Fr.of_ex (Ex.new _ _) _) hF1
    have c1 := cell_of_one hres1
    have c2 := free_of_one hres1
    have c3 := lt_of_block hres1
    clear hR1 hF1
    by_cases hx : 0 < x
    · go_wp2_with fail
      have hres := World.cell?_setCell_same w1 ⟨w.heap.size, 0, none⟩ (.slice none 0 0) c1
      refine bodyPost_ret (v := .agg #[.slice none 0 0]) (by simp [results, Tryd.results29, go_sem, hres]) rfl ⟨.nil, none, p + 1, rfl, Or.inl rfl, fun _ => rfl, rfl, by omega, by simp only [tk]; omega, ?_, Fr.set F1.out (Or.inr (Nat.le_refl _)) _⟩
      exact R1.out.set (by show rb < w.heap.size; omega) _
    · have e3 : decide (0 < x) = false := by simp; omega
      go_wp2_with fail
      refine (I.out (D - 1) rb (p + 1) _ (by have := HD.out; omega) (by omega) (by omega) R1.out).mono ?_
      rintro e w2 ⟨f0, a0, q0, rfl, ht0, hn0, hf0, hq0, hq0', hR2, hF2⟩
      have F2 : Hid (Fr rb w1 w2) := hF2
      have N0 : Hid (len f0 = 0 → a0 = none) := hn0
      have T0 : Hid (TA w2 w1.heap.size f0 a0) := ht0
      have FF0 : Hid (fits (d + 1) f0 = true) := hf0
      clear ht0 hn0 hf0 hF2
      go_wp2_with fail
      refine (I.out (D - 1) rb q0 _ (by have := HD.out; omega) (by omega) (by omega) hR2).mono ?_
      rintro e w3 ⟨f1, a1, q1, rfl, ht1, hn1, hf1, hq1, hq1', hR3, hF3⟩
      have F3 : Hid (Fr rb w2 w3) := hF3
      have T1 : Hid (TA w3 w2.heap.size f1 a1) := ht1
      have FF1 : Hid (fits (d + 1) f1 = true) := hf1
      have R3 : Hid (Rd w3 rb q1) := hR3
      have hres3 := hF3.blk (by omega) (F2.out.blk (by omega) hres1)
      clear ht1 hn1 hf1 hF3 hR2 hR3 c1 c2 c3
      have c1 := cell_of_one hres3
      have c2 := free_of_one hres3
      have c3 := lt_of_block hres3
      go_wp2_with fail
      have hres := res_at c1 (.slice (some ⟨w3.heap.size, 0, none⟩) 2 2) (.cells #[.slice a0 (len f0) (len f0), .slice a1 (len f1) (len f1)] 32)
      have z1 : w.heap.size < w1.heap.size := lt_of_block hres1
      have z2 := F2.out.size
      have t0 : TA ((w3.setCell ⟨w.heap.size, 0, none⟩ (.slice (some ⟨w3.heap.size, 0, none⟩) 2 2)).alloc (.cells #[.slice a0 (len f0) (len f0), .slice a1 (len f1) (len f1)] 32)) w.heap.size f0 a0 := TA_lo (TA_kp T0.out (((F3.out.kp (by omega)).set (Or.inl (by show w.heap.size < _; omega)) _).alloc _)) (by omega)
      have t1 : TA ((w3.setCell ⟨w.heap.size, 0, none⟩ (.slice (some ⟨w3.heap.size, 0, none⟩) 2 2)).alloc (.cells #[.slice a0 (len f0) (len f0), .slice a1 (len f1) (len f1)] 32)) w.heap.size f1 a1 := TA_lo (TA_kp T1.out (((Kp.refl _ _).set (Or.inl (by show w.heap.size < _; omega)) _).alloc _)) (by omega)
      refine bodyPost_ret (v := .agg #[.slice (some ⟨w3.heap.size, 0, none⟩) 2 2]) (by simp [results, Tryd.results29, go_sem, hres]) rfl ⟨two 0 f0 0 f1, _, q1, rfl, TA_two (k0 := len f0) (k1 := len f1) rfl ?_ ?_ ?_ t0 t1, (fun h => by cases h), ?_, by omega, by simp only [tk]; omega, ?_, ?_⟩
      · omega
      · rw [cell_set_new]; rfl
      · rw [cell_set_new]; rfl
      · rw [fits_two rfl]; show (fits (d + 1) f0 && fits (d + 1) f1) = true; rw [FF0.out, FF1.out]; rfl
      · exact (R3.out.set (by show rb < w.heap.size; omega) _).ex (Ex.new _ _)
      · exact ((F1.out.trans (F2.out.trans F3.out)).set (Or.inr (Nat.le_refl _)) _).alloc _

end Go.Proofs.YthdihpcpobhadaaDoor
