/- The law on parts of types, walked. -/
import Derived.Test.YtomnekiiccbioaaD3
namespace Go.Proofs.Ytomnekiiccbioaa
open Go.RowKit Go.Deep
attribute [local go_sem ↓] Go.wp_at_zero Go.wp_at_succ

theorem fits_mono : ∀ (r : Nat) (f : F), fits r f = true → fits (r + 1) f = true
  | 0, f, h => by simp [fits] at h
  | r + 1, f, h => by
    rcases fits_len h with h0 | h2
    · exact fits_nil h0
    · rw [fits_two h2, Bool.and_eq_true] at h
      rw [fits_two h2, fits_mono r _ h.1, fits_mono r _ h.2]; rfl

theorem fits_kid {r : Nat} {f : F} (h : fits (r + 1) f = true) (i : Nat) (hi : i < len f) : fits r (kid f i) = true := by
  have h2 : len f = 2 := by have := fits_len h; omega
  rw [fits_two h2, Bool.and_eq_true] at h
  have : i = 0 ∨ i = 1 := by omega
  rcases this with rfl | rfl
  · exact h.1
  · exact h.2

theorem typeAt_pair (f : F) : (typeAtR (two 0 f 0 f) [0]).2 = fits 4 (two 0 f 0 f) := by
  cases h : fits 4 (two 0 f 0 f)
  · simp [typeAtR, h]
  · simp [typeAtR, h, partF, len_two]

set_option maxRecDepth 100000 in
set_option maxHeartbeats 2000000 in
theorem lawTypeParts (n cc : Nat) (ca : Option Addr) (w : World) (hn : n ≤ cc) (hc : cc ≤ 9223372036854775807) (hB : By w n ca) :
    Calls Try.prog 4 #[.slice ca n cc] w fun e w' => e = .returned (.bool true) ∧ Ex w w' := by
  have B : Hid (By w n ca) := hB
  clear hB
  by_cases hbig : 1048576 < n
  · go_enter Try.func4, Try.ntmps4
    go_wp2_with fail
    go_ret
    exact ⟨rfl, Ex.refl _⟩
  go_enter Try.func4, Try.ntmps4
  go_wp2_with fail
  refine (DrawTypeOk_any n cc ca _ hn hc B.out).mono ?_
  rintro e w1 ⟨f, a, cap, rfl, ht, hsm, hx1⟩
  have T : Hid (TA w1 w.heap.size f a) := ht
  have SM : Hid (len f ≤ 1000000000 ∧ Sm f) := hsm
  have hl := hsm.1
  clear ht hsm
  go_wp2_with fail
  refine (iTypeOk_any f a cap w.heap.size _ (TA_below T.out (Ex.new _ _))).mono ?_
  rintro e w2 ⟨rfl, hb2⟩
  have c2 : w2.cell? ⟨w1.heap.size, 0, none⟩ = some (.slice a (len f) cap) := Ex.at hb2 (by simp)
  go_wp2_with fail
  refine (sTypeOk_any f a cap w.heap.size _ (TA_below T.out ((Ex.new _ _).trans hb2))).mono ?_
  rintro e w3 ⟨rfl, hb3⟩
  have hx3 : Ex (w1.alloc (.cells #[.slice a (len f) cap] 25)) w3 := hb2.trans hb3
  have c3 : w3.cell? ⟨w1.heap.size, 0, none⟩ = some (.slice a (len f) cap) := Ex.at hx3 (by simp)
  clear c2
  cases hf : fits 4 f
  · go_wp2_with fail
    refine (sTypeOk_any f a cap w.heap.size _ (TA_below T.out ((Ex.new _ _).trans hx3))).mono ?_
    rintro e w4 ⟨rfl, hb4⟩
    go_wp2_with fail
    go_ret
    exact ⟨ret_b (by simp), hx1.trans ((Ex.new _ _).trans (hx3.trans hb4))⟩
  have HF : Hid (fits 4 f = true) := hf
  clear hf
  go_wp2_with fail
  go_loopw [5] (fun i wr => ∃ k : Nat, k ≤ len f ∧ i = .int .i64 k ∧ Ex (w1.alloc (.cells #[.slice a (len f) cap] 25)) wr) (fun i _ => len f - (intOf i).toNat)
  case atStart => exact ⟨0, Nat.zero_le _, rfl, hx3⟩
  case round =>
    obtain ⟨k, hk, rfl, hxr⟩ := hrel
    have cr : wr.cell? ⟨w1.heap.size, 0, none⟩ = some (.slice a (len f) cap) := Ex.at hxr (by simp)
    have hxr1 : Ex w1 wr := (Ex.new _ _).trans hxr
    clear c3
    by_cases hlt : k < len f
    · obtain ⟨b, o, rfl, hlo, hbs, hkk⟩ := TA_at (TA_below T.out hxr1) (by omega)
      obtain ⟨a0, c0, hc0, ht0⟩ := hkk k hlt
      have T0 : Hid (TA wr w.heap.size (kid f k) a0) := ht0
      clear hkk ht0
      go_wp2_with fail
      refine (iTypeOk_any (kid f k) a0 c0 w.heap.size _ T0.out).mono ?_
      rintro e w5 ⟨rfl, hb5⟩
      rw [fits_mono 3 _ (fits_kid HF.out k hlt)]
      go_wp2_with fail
      go_roundw
      case rel => exact ⟨k + 1, by omega, by go_num, hxr.trans hb5⟩
      case measure => simp [intOf]; omega
    · go_wp2_with fail
      have hxw : Ex wr (((wr.alloc (.cells #[.slice a (len f) cap, .slice a (len f) cap] 25)).alloc (.cells #[.slice (some ⟨wr.heap.size, 0, none⟩) 2 2] 25)).alloc (.cells #[.int .i64 0] 3)) := ((Ex.new _ _).alloc _).alloc _
      have tb : TA (((wr.alloc (.cells #[.slice a (len f) cap, .slice a (len f) cap] 25)).alloc (.cells #[.slice (some ⟨wr.heap.size, 0, none⟩) 2 2] 25)).alloc (.cells #[.int .i64 0] 3)) w.heap.size f a := TA_below T.out (hxr1.trans hxw)
      have hw1 := hx1.size
      have hwr := hxr1.size
      have tp : TA (((wr.alloc (.cells #[.slice a (len f) cap, .slice a (len f) cap] 25)).alloc (.cells #[.slice (some ⟨wr.heap.size, 0, none⟩) 2 2] 25)).alloc (.cells #[.int .i64 0] 3)) w.heap.size (two 0 f 0 f) (some ⟨wr.heap.size, 0, none⟩) := TA_two (k0 := cap) (k1 := cap) rfl (by omega) (Ex.at ((Ex.new (wr.alloc (.cells #[.slice a (len f) cap, .slice a (len f) cap] 25)) _).alloc _) (World.cell?_alloc_new _ _ _ _)) (Ex.at ((Ex.new (wr.alloc (.cells #[.slice a (len f) cap, .slice a (len f) cap] 25)) _).alloc _) (World.cell?_alloc_new _ _ _ _)) tb tb
      have pp : PA (((wr.alloc (.cells #[.slice a (len f) cap, .slice a (len f) cap] 25)).alloc (.cells #[.slice (some ⟨wr.heap.size, 0, none⟩) 2 2] 25)).alloc (.cells #[.int .i64 0] 3)) 0 [0] (some ⟨wr.heap.size + 1 + 1, 0, none⟩) := Or.inr ⟨_, _, rfl, Nat.zero_le _, fun i hi => by
        have : i = 0 := by simpa using hi
        subst this
        exact World.cell?_alloc_at _ _ _ _ (by simp)⟩
      refine (iTypeAt_any (two 0 f 0 f) [0] _ 2 _ 1 w.heap.size _ (by simp) tp pp).mono ?_
      rintro e w6 ⟨a6, k6, rfl, ht6, hb6⟩
      rw [typeAt_pair]
      have tp6 : TA w6 w.heap.size (two 0 f 0 f) (some ⟨wr.heap.size, 0, none⟩) := TA_below tp hb6
      have TP : Hid (∀ w', Ex w6 w' → TA w' w.heap.size (two 0 f 0 f) (some ⟨wr.heap.size, 0, none⟩)) := fun _ h => TA_below tp6 h
      have c6 : w6.cell? ⟨wr.heap.size + 1, 0, none⟩ = some (.slice (some ⟨wr.heap.size, 0, none⟩) 2 2) := Ex.at hb6 (Ex.at (Ex.new _ _) (World.cell?_alloc_at _ _ _ _ (by simp)))
      have KS : Hid (∀ w', Ex w6 w' → (Ex w6 w' ∧ w'.cell? ⟨wr.heap.size + 1, 0, none⟩ = some (.slice (some ⟨wr.heap.size, 0, none⟩) 2 2))) := fun w' h => ⟨h, Ex.at h c6⟩
      have hx6 : Ex w w6 := hx1.trans (hxr1.trans (hxw.trans hb6))
      have X6 : Hid (Ex w w6) := hx6
      generalize hpr : two 0 f 0 f = pr at *
      have hl2 : len pr = 2 := by rw [← hpr]; rfl
      have L2 : Hid (len pr = 2) := hl2
      have IA : Hid (∀ w', Ex w6 w' → Calls Try.prog 26 #[.agg #[.slice (some ⟨wr.heap.size, 0, none⟩) 2 2]] w' fun e w'' => e = .returned (.bool (fits 4 pr)) ∧ Ex w' w'') := fun w' h => by
        have := iTypeOk_any pr (some ⟨wr.heap.size, 0, none⟩) 2 w.heap.size w' (TP.out w' h); rw [L2.out] at this; exact this
      have IB : Hid (∀ w', Ex w6 w' → Calls Try.prog 27 #[.agg #[.slice (some ⟨wr.heap.size, 0, none⟩) 2 2]] w' fun e w'' => e = .returned (.bool (fits 4 pr)) ∧ Ex w' w'') := fun w' h => by
        have := sTypeOk_any pr (some ⟨wr.heap.size, 0, none⟩) 2 w.heap.size w' (TP.out w' h); rw [L2.out] at this; exact this
      clear tp tp6 tb pp hpr hl2 ht6 hb6 hxw cr hxr hxr1 hx3 hb2 hb3 hx1 hx6
      go_wp2_with fail
      go_region_held3 (fun w' => Ex w6 w' ∧ w'.cell? ⟨wr.heap.size + 1, 0, none⟩ = some (.slice (some ⟨wr.heap.size, 0, none⟩) 2 2)) ((refine KS.out _ ?_; first | exact (Ex.new _ _).drew | exact Ex.trans (And.left ‹Ex _ _ ∧ _›) ‹Ex _ _›)) (first | (go_at_call 26; refine (IA.out _ (And.left ‹Ex _ _ ∧ _›)).mono ?_; rintro e w7 ⟨rfl, hb7⟩) | (go_at_call 27; refine (IB.out _ (And.left ‹Ex _ _ ∧ _›)).mono ?_; rintro e w8 ⟨rfl, hb8⟩))
      go_wp2_with fail
      go_ret
      exact ⟨rfl, X6.out.trans (And.left ‹Ex _ _ ∧ _›)⟩

end Go.Proofs.Ytomnekiiccbioaa
