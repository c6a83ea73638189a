/- The exact law on a value's text, walked. -/
import Derived.Test.YtngheeeadekdmaaDoorT3

import Derived.Test.YtngheeeadekdmaaDoorE9

namespace Go.Proofs.YtngheeeadekdmaaDoor

open Go.RowKit Go.Deep

attribute [local go_sem ↓] Go.wp_at_zero Go.wp_at_succ

set_option maxRecDepth 100000 in
set_option maxHeartbeats 4000000 in
theorem lawExactValText (n : Int) (f : F) (a : Option Addr) (c : Nat) (w : World) (hl : len f ≤ 9223372036854775807) (hlm : Lm f) (hV : VA w 0 f a) (ht : Tab w) :
    Calls Tryd.prog 5 #[.agg #[.int .i64 n, .slice a (len f) c]] w fun e w' => e = .returned (.bool true) ∧ Ex w w' := by
  have V : Hid (∀ w', Ex w w' → VA w' 0 f a) := fun _ h => VA_below hV h
  have HT : Hid (∀ w', Ex w w' → Tab w') := fun _ h => ht.ex h
  clear hV ht
  obtain ⟨W0, hW0⟩ : ∃ W0, W0 = w.alloc (.cells #[.int .i64 n, .slice a (len f) c] 31) := ⟨_, rfl⟩
  have X0 : Hid (Ex w W0) := hW0 ▸ Ex.new _ _
  have C0 : Hid (∀ w', Ex W0 w' → w'.cell? ⟨w.heap.size, 0, none⟩ = some (.int .i64 n) ∧ w'.cell? ⟨w.heap.size, 1, none⟩ = some (.slice a (len f) c)) := fun w' h => ⟨h.at (hW0 ▸ World.cell?_alloc_new _ _ _ _), h.at (hW0 ▸ World.cell?_alloc_new _ _ _ _)⟩
  have HW0 : Hid (w.alloc (.cells #[.int .i64 n, .slice a (len f) c] 31) = W0) := hW0.symm
  clear hW0
  go_enter Tryd.func5, Tryd.ntmps5
  go_wp2_with fail
  rw [HW0.out]
  refine ((szVal_both (dep f + 1)).2 n f a c 0 1048576 _ (by omega) hl hlm (by omega) (by omega) (V.out _ X0.out)).mono ?_
  rintro e w1 ⟨x, rfl, hx0, hx1, hsm, hb1⟩
  by_cases hx : x < 0
  · go_wp2_with fail
    go_ret
    exact ⟨rfl, X0.out.trans hb1⟩
  have SF : Hid (len f ≤ 1048576 ∧ Sm f) := hsm (by omega)
  have hlf : len f ≤ 1000000000 := by have := SF.out.1; omega
  have TV : Hid (∀ w', Ex W0 w' → Calls Tryd.prog 10 #[.agg #[.int .i64 n, .slice a (len f) c]] w' fun e w'' => ∃ a' c', e = .returned (.agg #[.int .i64 n, .slice a' (len f) c']) ∧ VA w'' w'.heap.size f a' ∧ Ex w' w'') := fun w' h => (toVal_both (dep f + 1)).2 n f a c 0 w' (by omega) hlf SF.out.2 (V.out _ (X0.out.trans h))
  have ST : Hid (∀ w' a' c', VA w' 0 f a' → Calls Tryd.prog 8 #[.agg #[.int .i64 n, .slice a' (len f) c']] w' fun e w'' => e = .returned (.string (textV n f)) ∧ Ex w' w'') := fun w' a' c' h => sValText_any n f a' c' 0 w' hlf SF.out.2 h
  have IT : Hid (∀ w' a' c', Ex W0 w' → VA w' 0 f a' → Calls Tryd.prog 7 #[.agg #[.int .i64 n, .slice a' (len f) c']] w' fun e w'' => e = .returned (.string (textV n f)) ∧ Ex w' w'') := fun w' a' c' hx h => iValText_any n f a' c' 0 w' h (HT.out _ (X0.out.trans hx))
  have EF : Hid (∀ w' a' c' a'' c'', VA w' 0 f a' → VA w' 0 f a'' → Calls Tryd.prog 11 #[.agg #[.int .i64 n, .slice a' (len f) c'], .agg #[.int .i64 n, .slice a'' (len f) c'']] w' fun e w'' => e = .returned (.bool true) ∧ Ex w' w'') := fun w' a' c' a'' c'' h h' => by
    have := (eqVal_both (dep f + 1)).2 n n f f a' a'' c' c'' 0 0 w' (by omega) hlf SF.out.2 h h'
    rw [eqV_refl] at this; simpa using this
  obtain ⟨s, hs⟩ : ∃ s, s = textV n f := ⟨_, rfl⟩
  rw [← hs] at ST IT
  clear hs hsm hl hlm
  obtain ⟨q0, q1⟩ := C0.out w1 hb1
  go_wp2_with fail
  refine (TV.out w1 hb1).mono ?_
  rintro e wa ⟨aa, ka, rfl, hva, hba⟩
  have Ha : Ex W0 wa := hb1.trans hba
  have VAa : Hid (VA wa 0 f aa) := VA_lo hva (Nat.zero_le _)
  clear hva q0 q1
  go_wp2_with fail
  refine (ST.out wa aa ka VAa.out).mono ?_
  rintro e w2 ⟨rfl, hb2⟩
  have H2 : Ex W0 w2 := Ha.trans hb2
  obtain ⟨q0, q1⟩ := C0.out w2 H2
  have z2 : w.heap.size < w2.heap.size := World.block_lt_of_cell? _ _ q0
  go_wp2_with fail
  refine (TV.out w2 H2).mono ?_
  rintro e w3 ⟨a3, c3, rfl, hv3, hb3⟩
  obtain ⟨W3, hW3⟩ : ∃ W3, W3 = w3.alloc (.cells #[.int .i64 n, .slice a3 (len f) c3] 25) := ⟨_, rfl⟩
  have N3 : Ex w3 W3 := hW3 ▸ Ex.new _ _
  have X3 : Hid (Ex W0 W3) := H2.trans (hb3.trans N3)
  have O3 : Hid (∀ w', Ex W3 w' → VA w' 0 f a3) := fun _ h => VA_lo (VA_below hv3 (N3.trans h)) (Nat.zero_le _)
  have C3 : Hid (∀ w', Ex W3 w' → w'.cell? ⟨w3.heap.size, 0, none⟩ = some (.int .i64 n) ∧ w'.cell? ⟨w3.heap.size, 1, none⟩ = some (.slice a3 (len f) c3)) := fun w' h => ⟨h.at (hW3 ▸ World.cell?_alloc_new _ _ _ _), h.at (hW3 ▸ World.cell?_alloc_new _ _ _ _)⟩
  clear hv3 N3 q0 q1
  go_wp2_with fail
  rw [← hW3]
  clear hW3
  refine (IT.out W3 a3 c3 X3.out (O3.out _ (Ex.refl _))).mono ?_
  rintro e w4 ⟨rfl, hb4⟩
  have X4 : Hid (Ex W3 w4) := hb4
  have KS : Hid (∀ w', Ex W3 w' → (Ex W3 w' ∧ w'.cell? ⟨w.heap.size, 0, none⟩ = some (.int .i64 n) ∧ w'.cell? ⟨w.heap.size, 1, none⟩ = some (.slice a (len f) c) ∧ w'.cell? ⟨w3.heap.size, 0, none⟩ = some (.int .i64 n) ∧ w'.cell? ⟨w3.heap.size, 1, none⟩ = some (.slice a3 (len f) c3))) := fun w' h => ⟨h, (C0.out w' (X3.out.trans h)).1, (C0.out w' (X3.out.trans h)).2, (C3.out w' h).1, (C3.out w' h).2⟩
  clear hb4 hb1 hba Ha hb2 H2 hb3
  go_wp2_with fail
  go_region_held3 (fun w' => Ex W3 w' ∧ w'.cell? ⟨w.heap.size, 0, none⟩ = some (.int .i64 n) ∧ w'.cell? ⟨w.heap.size, 1, none⟩ = some (.slice a (len f) c) ∧ w'.cell? ⟨w3.heap.size, 0, none⟩ = some (.int .i64 n) ∧ w'.cell? ⟨w3.heap.size, 1, none⟩ = some (.slice a3 (len f) c3)) ((refine KS.out _ ?_; first | exact X4.out.drew | exact Ex.trans (And.left ‹Ex _ _ ∧ _›) ‹Ex _ _› | exact (And.left ‹Ex _ _ ∧ _›))) (first | (go_at_call 10; refine (TV.out _ (X3.out.trans (And.left ‹Ex _ _ ∧ _›))).mono ?_; rintro e w7 ⟨a7, c7, rfl, hv7, hb7⟩) | (go_at_call 11; refine (EF.out _ a3 c3 a7 c7 (O3.out _ (And.left ‹Ex _ _ ∧ _›)) (VA_lo hv7 (Nat.zero_le _))).mono ?_; rintro e w8 ⟨rfl, hb8⟩))
  have X8 : Ex W3 w8 := And.left ‹Ex W3 w8 ∧ _›
  go_wp2_with fail
  go_ret
  exact ⟨rfl, X0.out.trans (X3.out.trans X8)⟩
end Go.Proofs.YtngheeeadekdmaaDoor
