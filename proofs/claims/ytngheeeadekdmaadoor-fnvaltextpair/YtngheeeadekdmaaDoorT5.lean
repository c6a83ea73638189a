/- Walks: a value drawn for its text. -/
import Derived.Test.YtngheeeadekdmaaDoorD6

namespace Go.Proofs.YtngheeeadekdmaaDoor

open Go.RowKit Go.Deep

attribute [local go_sem ↓] Go.wp_at_zero Go.wp_at_succ

set_option maxRecDepth 100000 in
set_option maxHeartbeats 2000000 in
theorem DrawValText_any (n cc : Nat) (ca : Option Addr) (w : World) (hn : n ≤ cc) (hc : cc ≤ 9223372036854775807) (hB : By w n ca) :
    Calls Tryd.prog 6 #[.slice ca n cc] w fun e w' => ∃ (m : Int) (g : F) (a' : Option Addr) (c' : Nat), e = .returned (.agg #[.int .i64 m, .slice a' (len g) c']) ∧ VA w' w.heap.size g a' ∧ (len g ≤ 1000000000 ∧ Sm g) ∧ Ex w w' := by
  have B : Hid (By w n ca) := hB
  clear hB
  go_enter Tryd.func6, Tryd.ntmps6
  go_wp2_with fail
  refine (l6Open_any n cc ca _ hn hc (B.out.ex (Ex.new _ _))).mono ?_
  rintro e w0 ⟨rfl, hR0, hx0⟩
  rw [World.size_alloc] at hR0
  have X0 : Hid (Ex w w0) := (Ex.new _ _).trans hx0
  have hrs0 : w0.heap[w.heap.size]? = some (.cells #[.int .i64 0, .slice none 0 0] 25 (0, 0)) := hx0.blk (heap_alloc_new _ _)
  clear hx0
  go_wp2_with fail
  refine (pick_any _ 0 4 _ (by omega) (by omega) (by omega) hR0).mono ?_
  rintro e w1 ⟨x, rfl, hx1, hx3, hR1, hF1⟩
  have z0 := hR0.blk
  have z1 := hF1.size
  have htk : tk x.toNat ≤ 7 := by
    have : x.toNat = 0 ∨ x.toNat = 1 ∨ x.toNat = 2 ∨ x.toNat = 3 := by omega
    rcases this with h | h | h | h <;> rw [h] <;> decide
  go_wp2_with fail
  refine (l71Type_any x.toNat (1 + x) (w.heap.size + 1) (0 + 1) _ (by omega) (by omega) (by omega) hR1).mono ?_
  rintro e w2 ⟨f, a, q0, rfl, ht, hnil, hf, hq0, hq1, hR2, hF2⟩
  have F2 : Hid (Fr (w.heap.size + 1) w0 w2) := hF1.trans hF2
  have z2 := hF2.size
  clear hnil hR0 hR1 hF1 hF2
  go_wp2_with fail
  refine (l71Bad_any (x.toNat + 1) f a _ (w.heap.size + 2) (w.heap.size + 1) q0 _ (by omega) hf (by omega) (by omega) (TA_lo ht (by omega)) hR2).mono ?_
  rintro e w3 ⟨m, g, a', c', q, rfl, hv, hsm, _, _, _, hR3, hF3⟩
  have F3 : Hid (Fr (w.heap.size + 1) w0 w3) := F2.out.trans hF3
  have hrs3 := F3.out.blk (by omega) hrs0
  have z3 := hF3.size
  have c0 := two_cell0 hrs3
  have c1 := two_cell1 hrs3
  have c2 := two_free (i := 0) hrs3
  have c3 := two_free (i := 1) hrs3
  have V : Hid (VA w3 w2.heap.size g a') := hv
  have SM : Hid (len g ≤ 1000000000 ∧ Sm g) := hsm
  have X3 : Hid (Ex w w3) := F3.out.to_ex X0.out (by omega)
  clear hv hsm ht hR2 hR3 hF3 hrs0
  go_wp2_with fail
  have hb := two_set (u' := .int .i64 m) (v' := .slice a' (len g) c') hrs3
  have hr0 := two_cell0 hb
  have hr1 := two_cell1 hb
  refine bodyPost_ret (v := .agg #[.int .i64 m, .slice a' (len g) c']) (by simp [results, Tryd.results6, go_sem, hr0, hr1]) rfl ⟨m, g, a', c', rfl, VA_lo (VA_kp V.out (((Kp.refl _ _).set (Or.inl (by show w.heap.size < _; omega)) _).set (Or.inl (by show w.heap.size < _; omega)) _)) (by omega), SM.out, (X3.out.set (Nat.le_refl _) _).set (Nat.le_refl _) _⟩
end Go.Proofs.YtngheeeadekdmaaDoor
