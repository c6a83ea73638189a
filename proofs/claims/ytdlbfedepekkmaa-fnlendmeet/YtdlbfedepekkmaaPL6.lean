/- Walks: two places drawn. -/
import Derived.Test.YtdlbfedepekkmaaPL5

namespace Go.Proofs.Ytdlbfedepekkmaa

open Go.RowKit Go.Deep

attribute [local go_sem ↓] Go.wp_at_zero Go.wp_at_succ

set_option maxRecDepth 100000 in
set_option maxHeartbeats 2000000 in
theorem DrawLendMeet_any (n cc : Nat) (ca : Option Addr) (w : World) (hn : n ≤ cc) (hc : cc ≤ 9223372036854775807) (hB : By w n ca) :
    Calls Try.prog 5 #[.slice ca n cc] w fun e w' => ∃ (s t : ByteArray) (xs ys : List Int) (pa qa : Option Addr) (pc qc : Nat), e = .returned (.tuple #[.agg #[.string s, .slice pa xs.length pc], .agg #[.string t, .slice qa ys.length qc]]) ∧ PA w' 0 xs pa ∧ PA w' 0 ys qa ∧ xs.length ≤ 5 ∧ ys.length ≤ 5 ∧ (xs.length ≤ pc ∧ ys.length ≤ qc) ∧ (pc ≤ 9223372036854775807 ∧ qc ≤ 9223372036854775807) ∧ ((pa = none ∧ pc = 0) ∨ ∃ g, pa = some ⟨g, 0, none⟩) ∧ Ex w w' := by
  have B : Hid (By w n ca) := hB
  clear hB
  go_enter Try.func5, Try.ntmps5
  go_wp2_with fail
  refine (l6Open_any n cc ca _ hn hc (B.out.ex ((Ex.new _ _).alloc _))).mono ?_
  rintro e w1 ⟨rfl, hR1, hx1⟩
  rw [World.size_alloc, World.size_alloc] at hR1
  have hr0 := hx1.blk (n := w.heap.size) ((Ex.new _ _).blk (heap_alloc_new w (.cells #[.string ⟨#[]⟩, .slice none 0 0] 25)))
  have hr1 := hx1.blk (n := w.heap.size + 1) (heap_alloc_at _ (.cells #[.string ⟨#[]⟩, .slice none 0 0] 25) (by rw [World.size_alloc]))
  have X1 : Hid (Ex w w1) := ((Ex.new _ _).alloc _).trans hx1
  have z1 := hR1.blk
  clear hx1
  go_wp2_with fail
  refine (l71Place_any (w.heap.size + 1 + 1) 0 w1 (by omega) hR1).mono ?_
  rintro e w2 ⟨s, v, xs, q, rfl, hown, hxl, _, hq, hR2, hF2⟩
  obtain ⟨pa, pc, hv, hPA, hpl, hpm, hpn⟩ := hown.PA
  have PN : Hid ((pa = none ∧ pc = 0) ∨ ∃ g, pa = some ⟨g, 0, none⟩) := hpn
  clear hpn
  subst hv
  have P : Hid (PA w2 (w.heap.size + 3) xs pa) := PA_lo hPA (by omega)
  have hr0 := hF2.blk (by omega) hr0
  have hr1 := hF2.blk (by omega) hr1
  have F2 : Hid (Fr (w.heap.size + 1 + 1) w1 w2) := hF2
  have z2 := hF2.size
  clear hown hPA hF2 hR1
  go_wp2_with fail
  refine (l71Place_any (w.heap.size + 1 + 1) q _ (by omega) (hR2.ex (Ex.new _ _))).mono ?_
  rintro e w3 ⟨t, v, ys, q', rfl, hown, hyl, _, hq', hR3, hF3⟩
  obtain ⟨qa, qc, hv, hQA, hql, hqm, _⟩ := hown.PA
  subst hv
  have z3 := hF3.size
  rw [World.size_alloc] at z3 hQA
  have Q : Hid (PA w3 (w.heap.size + 3) ys qa) := PA_lo hQA (by omega)
  have hbA := hF3.blk (n := w2.heap.size) (by omega) (heap_alloc_new w2 (.cells #[.string s, .slice pa xs.length pc] 25))
  have hr0 := hF3.blk (by omega) ((Ex.new _ _).blk hr0)
  have hr1 := hF3.blk (by omega) ((Ex.new _ _).blk hr1)
  have F3 : Hid (Fr (w.heap.size + 1 + 1) w2 w3) := (Fr.of_ex (Ex.new _ _) _).trans hF3
  clear hown hQA hF3 hR2
  go_wp2_with fail
  refine (pick_any (w.heap.size + 1 + 1) q' 3 _ (by omega) (by omega) (by omega) (hR3.ex (Ex.new _ _))).mono ?_
  rintro e w4 ⟨x, rfl, hx0, hx3, hR4, hF4⟩
  have z4 := hF4.size
  rw [World.size_alloc] at z4
  have hbA := hF4.blk (n := w2.heap.size) (by omega) ((Ex.new _ _).blk hbA)
  have hbB := hF4.blk (n := w3.heap.size) (by omega) (heap_alloc_new w3 (.cells #[.string t, .slice qa ys.length qc] 25))
  have hr0 := hF4.blk (by omega) ((Ex.new _ _).blk hr0)
  have hr1 := hF4.blk (by omega) ((Ex.new _ _).blk hr1)
  have F4 : Hid (Fr (w.heap.size + 1 + 1) w3 w4) := (Fr.of_ex (Ex.new _ _) _).trans hF4
  clear hF4 hR3 hR4
  have X4 : Hid (Fr (w.heap.size + 1 + 1) w1 w4) := F2.out.trans (F3.out.trans F4.out)
  have K2 : Hid (Kp (w.heap.size + 3) w2 w4) := (F3.out.trans F4.out).kp (by omega)
  have K3 : Hid (Kp (w.heap.size + 3) w3 w4) := F4.out.kp (by omega)
  have hn2 : w2.heap.size ≠ w3.heap.size := by omega
  generalize hA : w2.heap.size = A at *
  generalize hBn : w3.heap.size = B' at *
  have a0 := two_cell0 hbA
  have a1 := two_cell1 hbA
  have b0 := two_cell0 hbB
  have b1 := two_cell1 hbB
  have b2 := two_free (i := 0) hbB
  have c0 := two_cell0 hr0
  have c1 := two_cell1 hr0
  have c2 := two_free (i := 0) hr0
  have c3 := two_free (i := 1) hr0
  have d0 := two_cell0 hr1
  have d1 := two_cell1 hr1
  have d2 := two_free (i := 0) hr1
  have d3 := two_free (i := 1) hr1
  have zA := lt_of_block hbA
  have zB := lt_of_block hbB
  have FIN : Hid (∀ (W : World) (u1 u2 u3 u4 : Value), Fr (w.heap.size + 1 + 1) w1 W → Kp (w.heap.size + 3) w2 W → Kp (w.heap.size + 3) w3 W → ∀ W', W' = (((W.drew.setCell ⟨w.heap.size, 0, none⟩ u1).setCell ⟨w.heap.size, 1, none⟩ u2).setCell ⟨w.heap.size + 1, 0, none⟩ u3).setCell ⟨w.heap.size + 1, 1, none⟩ u4 → PA W' 0 xs pa ∧ PA W' 0 ys qa ∧ Ex w W') := by
    intro W u1 u2 u3 u4 h1 h2 h3 W' hW'
    subst hW'
    refine ⟨PA_lo (PA_kp P.out ((((h2.drew.set (Or.inl (by show w.heap.size < _; omega)) _).set (Or.inl (by show w.heap.size < _; omega)) _).set (Or.inl (by show w.heap.size + 1 < _; omega)) _).set (Or.inl (by show w.heap.size + 1 < _; omega)) _)) (Nat.zero_le _), PA_lo (PA_kp Q.out ((((h3.drew.set (Or.inl (by show w.heap.size < _; omega)) _).set (Or.inl (by show w.heap.size < _; omega)) _).set (Or.inl (by show w.heap.size + 1 < _; omega)) _).set (Or.inl (by show w.heap.size + 1 < _; omega)) _)) (Nat.zero_le _), ?_⟩
    exact (((((h1.to_ex X1.out (by omega)).drew.set (by show w.heap.size ≤ w.heap.size; omega) _).set (by show w.heap.size ≤ w.heap.size; omega) _).set (by show w.heap.size ≤ w.heap.size + 1; omega) _).set (by show w.heap.size ≤ w.heap.size + 1; omega) _)
  by_cases hx : 0 < x
  · go_wp2_with fail
    go_region
    go_wp2_with fail
    have g0 : (w4.setCell ⟨B', 0, none⟩ (.string s)).heap[w.heap.size]? = some (.cells #[.string ⟨#[]⟩, .slice none 0 0] 25 (0, 0)) := (Below.heap_setCell _ _ _ _ (by show w.heap.size ≠ B'; omega)).trans hr0
    have g1 : (w4.setCell ⟨B', 0, none⟩ (.string s)).heap[w.heap.size + 1]? = some (.cells #[.string ⟨#[]⟩, .slice none 0 0] 25 (0, 0)) := (Below.heap_setCell _ _ _ _ (by show w.heap.size + 1 ≠ B'; omega)).trans hr1
    have y0 := World.cell?_setCell_same (w4.setCell ⟨B', 0, none⟩ (.string s)) ⟨w.heap.size, 0, none⟩ (.string s) (two_cell0 g0)
    have y1 := World.cell?_setCell_same ((w4.setCell ⟨B', 0, none⟩ (.string s)).setCell ⟨w.heap.size, 0, none⟩ (.string s)) ⟨w.heap.size, 1, none⟩ (.slice pa xs.length pc) (two_cell1 (pl_set0 g0))
    have g2 := (Below.heap_setCell ((w4.setCell ⟨B', 0, none⟩ (.string s)).setCell ⟨w.heap.size, 0, none⟩ (.string s)) ⟨w.heap.size, 1, none⟩ (.slice pa xs.length pc) _ (by show w.heap.size + 1 ≠ w.heap.size; omega)).trans ((Below.heap_setCell (w4.setCell ⟨B', 0, none⟩ (.string s)) ⟨w.heap.size, 0, none⟩ (.string s) _ (by show w.heap.size + 1 ≠ w.heap.size; omega)).trans g1)
    have y2 := World.cell?_setCell_same _ ⟨w.heap.size + 1, 0, none⟩ (.string s) (two_cell0 g2)
    have y3 := World.cell?_setCell_same _ ⟨w.heap.size + 1, 1, none⟩ (.slice qa ys.length qc) (two_cell1 (pl_set0 (u' := .string s) g2))
    have hfin := FIN.out (w4.setCell ⟨B', 0, none⟩ (.string s)) (.string s) (.slice pa xs.length pc) (.string s) (.slice qa ys.length qc) (X4.out.set (Or.inr (by show w1.heap.size ≤ B'; omega)) _) (K2.out.set (Or.inr (by show w2.heap.size ≤ B'; omega)) _) (K3.out.set (Or.inr (by show w3.heap.size ≤ B'; omega)) _) _ rfl
    exact bodyPost_ret (v := .tuple #[.agg #[.string s, .slice pa xs.length pc], .agg #[.string s, .slice qa ys.length qc]]) (by simp [results, Try.results5, go_sem, y0, y1, y2, y3]) rfl ⟨s, s, xs, ys, pa, qa, pc, qc, rfl, hfin.1, hfin.2.1, hxl, hyl, ⟨hpl, hql⟩, ⟨hpm, hqm⟩, PN.out, hfin.2.2⟩
  · have e0 : decide (0 < x) = false := by simp; omega
    go_wp2_with fail
    go_region
    go_wp2_with fail
    have g0 : (w4).heap[w.heap.size]? = some (.cells #[.string ⟨#[]⟩, .slice none 0 0] 25 (0, 0)) := hr0
    have g1 : (w4).heap[w.heap.size + 1]? = some (.cells #[.string ⟨#[]⟩, .slice none 0 0] 25 (0, 0)) := hr1
    have y0 := World.cell?_setCell_same (w4) ⟨w.heap.size, 0, none⟩ (.string s) (two_cell0 g0)
    have y1 := World.cell?_setCell_same ((w4).setCell ⟨w.heap.size, 0, none⟩ (.string s)) ⟨w.heap.size, 1, none⟩ (.slice pa xs.length pc) (two_cell1 (pl_set0 g0))
    have g2 := (Below.heap_setCell ((w4).setCell ⟨w.heap.size, 0, none⟩ (.string s)) ⟨w.heap.size, 1, none⟩ (.slice pa xs.length pc) _ (by show w.heap.size + 1 ≠ w.heap.size; omega)).trans ((Below.heap_setCell (w4) ⟨w.heap.size, 0, none⟩ (.string s) _ (by show w.heap.size + 1 ≠ w.heap.size; omega)).trans g1)
    have y2 := World.cell?_setCell_same _ ⟨w.heap.size + 1, 0, none⟩ (.string t) (two_cell0 g2)
    have y3 := World.cell?_setCell_same _ ⟨w.heap.size + 1, 1, none⟩ (.slice qa ys.length qc) (two_cell1 (pl_set0 (u' := .string t) g2))
    have hfin := FIN.out (w4) (.string s) (.slice pa xs.length pc) (.string t) (.slice qa ys.length qc) X4.out K2.out K3.out _ rfl
    exact bodyPost_ret (v := .tuple #[.agg #[.string s, .slice pa xs.length pc], .agg #[.string t, .slice qa ys.length qc]]) (by simp [results, Try.results5, go_sem, y0, y1, y2, y3]) rfl ⟨s, t, xs, ys, pa, qa, pc, qc, rfl, hfin.1, hfin.2.1, hxl, hyl, ⟨hpl, hql⟩, ⟨hpm, hqm⟩, PN.out, hfin.2.2⟩
end Go.Proofs.Ytdlbfedepekkmaa
