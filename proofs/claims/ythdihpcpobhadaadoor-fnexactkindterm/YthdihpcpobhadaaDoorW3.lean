/- Walks: a type copied. -/
import Derived.Test.YthdihpcpobhadaaDoorW2

import Derived.Deep.RegionHeld3

import Derived.Deep.AppendLies

import Derived.Deep.DrawnRows

namespace Go.Proofs.YthdihpcpobhadaaDoor

open Go.RowKit Go.Deep

attribute [local go_sem ↓] Go.wp_at_zero Go.wp_at_succ

theorem fits_len {r : Nat} {f : F} (h : fits r f = true) : len f = 0 ∨ len f = 2 := by
  by_cases h0 : len f = 0
  · exact Or.inl h0
  · by_cases h2 : len f = 2
    · exact Or.inr h2
    · rw [fits_no h0 h2] at h; cases h

set_option maxHeartbeats 1000000 in
theorem typeCopy_any : ∀ (r : Nat) (f : F) (a : Option Addr) (cap : Nat) (lo : Nat) (w : World), fits r f = true → TA w lo f a →
    Calls Tryd.prog 42 #[.agg #[.slice a (len f) cap]] w fun e w' => ∃ a' cap', e = .returned (.agg #[.slice a' (len f) cap']) ∧ TA w' w.heap.size f a' ∧ Ex w w'
  | 0, f, a, cap, lo, w, hf, hT => by simp [fits] at hf
  | r + 1, f, a, cap, lo, w, hf, hT => by
    by_cases h0 : len f = 0
    · have h0' : ((len f : Int) == 0) = true := by simp [h0]
      have H0 : Hid (len f = 0) := h0
      clear h0
      go_enter Tryd.func42, Tryd.ntmps42
      go_wp2_with fail
      refine bodyPost_ret (v := .agg #[.slice none 0 0]) (by simp [results, Tryd.results42, go_sem]) rfl ⟨none, 0, by rw [H0.out], Or.inl H0.out, ?_⟩
      exact ((Ex.new _ _).alloc _)
    · have h2 : len f = 2 := by have := fits_len hf; omega
      rw [fits_two h2, Bool.and_eq_true] at hf
      obtain ⟨b, o, rfl, hlo, hbs, hk⟩ := TA_at hT (by omega)
      obtain ⟨a0, c0, hc0, ht0⟩ := hk 0 (by omega)
      obtain ⟨a1, c1, hc1, ht1⟩ := hk 1 (by omega)
      rw [Nat.add_zero] at hc0
      have I0 : Hid _ := fun w' h => typeCopy_any r (kid f 0) a0 c0 lo w' hf.1 h
      have I1 : Hid _ := fun w' h => typeCopy_any r (kid f 1) a1 c1 lo w' hf.2 h
      have T0 : Hid (∀ w', Ex w w' → TA w' lo (kid f 0) a0) := fun _ h => TA_below ht0 h
      have T1 : Hid (∀ w', Ex w w' → TA w' lo (kid f 1) a1) := fun _ h => TA_below ht1 h
      have H2 : Hid (len f = 2) := h2
      have E0 : Hid (Ex w (w.alloc (.cells #[.slice (some ⟨b, o, none⟩) 2 cap] 32))) := Ex.new _ _
      have KS : Hid (∀ w', Core (w.alloc (.cells #[.slice (some ⟨b, o, none⟩) 2 cap] 32)) (w.heap.size + 1) 1 32 w' → (Core (w.alloc (.cells #[.slice (some ⟨b, o, none⟩) 2 cap] 32)) (w.heap.size + 1) 1 32 w' ∧ w'.cell? ⟨w.heap.size, 0, none⟩ = some (.slice (some ⟨b, o, none⟩) 2 cap) ∧ w'.cell? ⟨b, o, none⟩ = some (.slice a0 (len (kid f 0)) c0) ∧ w'.cell? ⟨b, o + 1, none⟩ = some (.slice a1 (len (kid f 1)) c1))) := fun w' h => ⟨h, Ex.at h.1 (by simp), Ex.at h.1 (Ex.at (Ex.new _ _) hc0), Ex.at h.1 (Ex.at (Ex.new _ _) hc1)⟩
      have C0 : Hid (Core (w.alloc (.cells #[.slice (some ⟨b, o, none⟩) 2 cap] 32)) (w.heap.size + 1) 1 32 ((w.alloc (.cells #[.slice (some ⟨b, o, none⟩) 2 cap] 32)).alloc (.cells #[.slice none 0 0] 32))) := by
        have := Core.start (w.alloc (.cells #[.slice (some ⟨b, o, none⟩) 2 cap] 32)) #[.slice none 0 0] 32
        rw [World.size_alloc] at this; exact this
      rw [h2]
      clear hk hT ht0 ht1 hf h2 h0
      go_enter Tryd.func42, Tryd.ntmps42
      go_wp2_with fail
      go_region_held3 (fun w' => Core (w.alloc (.cells #[.slice (some ⟨b, o, none⟩) 2 cap] 32)) (w.heap.size + 1) 1 32 w' ∧ w'.cell? ⟨w.heap.size, 0, none⟩ = some (.slice (some ⟨b, o, none⟩) 2 cap) ∧ w'.cell? ⟨b, o, none⟩ = some (.slice a0 (len (kid f 0)) c0) ∧ w'.cell? ⟨b, o + 1, none⟩ = some (.slice a1 (len (kid f 1)) c1)) ((refine KS.out _ ?_; first | exact Core.drew C0.out | exact Core.ex (And.left ‹Core _ _ _ _ _ ∧ _›) ‹Ex _ _› | exact Core.alloc (And.left ‹Core _ _ _ _ _ ∧ _›) _ | exact Core.set (And.left ‹Core _ _ _ _ _ ∧ _›) _ _ (by simp) _ | exact Core.alloc (Core.set (by assumption) _ _ (by simp) _) _)) (first | (go_at_call_of 42 (Value.slice a0 (len (kid f 0)) c0); refine (I0.out _ (T0.out _ (Ex.trans E0.out (And.left ‹Core _ _ _ _ _ ∧ _›).1))).mono ?_; rintro e w1 ⟨a0', c0', rfl, ht0', hb0⟩) | (go_at_call_of 42 (Value.slice a1 (len (kid f 1)) c1); refine (I1.out _ (T1.out _ (Ex.trans E0.out (And.left ‹Core _ _ _ _ _ ∧ _›).1))).mono ?_; rintro e w2 ⟨a1', c1', rfl, ht1', hb1⟩; have hcr := Core.ex (And.left ‹Core _ _ _ _ _ ∧ _›) hb1; obtain ⟨vr, hvr⟩ := hcr.cell 0 (by omega); have hfr := hcr.frozen 0; have hlr := hcr.lt))
      go_wp2_with fail
      have hz : w.heap.size + 2 ≤ w1.heap.size := by have := hb0.size; simpa using this
      have k1 : Kp (w.heap.size + 2) w1 ((w2.setCell ⟨w.heap.size + 1, 0, none⟩ (.slice (some ⟨w2.heap.size, 0, none⟩) 2 2)).alloc (.cells #[.slice a0' (len (kid f 0)) c0', .slice a1' (len (kid f 1)) c1'] 32)) := ((Kp.of_below hb1 _).set (Or.inl (by simp)) _).alloc _
      have k2 : Kp (w.heap.size + 2) w2 ((w2.setCell ⟨w.heap.size + 1, 0, none⟩ (.slice (some ⟨w2.heap.size, 0, none⟩) 2 2)).alloc (.cells #[.slice a0' (len (kid f 0)) c0', .slice a1' (len (kid f 1)) c1'] 32)) := ((Kp.refl _ _).set (Or.inl (by simp)) _).alloc _
      have f0 : TA ((w2.setCell ⟨w.heap.size + 1, 0, none⟩ (.slice (some ⟨w2.heap.size, 0, none⟩) 2 2)).alloc (.cells #[.slice a0' (len (kid f 0)) c0', .slice a1' (len (kid f 1)) c1'] 32)) w.heap.size (kid f 0) a0' := TA_lo (TA_kp (TA_lo ht0' (by simp)) k1) (by omega)
      have f1 : TA ((w2.setCell ⟨w.heap.size + 1, 0, none⟩ (.slice (some ⟨w2.heap.size, 0, none⟩) 2 2)).alloc (.cells #[.slice a0' (len (kid f 0)) c0', .slice a1' (len (kid f 1)) c1'] 32)) w.heap.size (kid f 1) a1' := TA_lo (TA_kp (TA_lo ht1' hz) k2) (by omega)
      have hres : ((w2.setCell ⟨w.heap.size + 1, 0, none⟩ (.slice (some ⟨w2.heap.size, 0, none⟩) 2 2)).alloc (.cells #[.slice a0' (len (kid f 0)) c0', .slice a1' (len (kid f 1)) c1'] 32)).cell? ⟨w.heap.size + 1, 0, none⟩ = some (.slice (some ⟨w2.heap.size, 0, none⟩) 2 2) := by
        rw [World.cell?_alloc_lt _ _ _ (by simpa using hlr)]; exact World.cell?_setCell_same _ _ _ hvr
      refine bodyPost_ret (v := .agg #[.slice (some ⟨w2.heap.size, 0, none⟩) 2 2]) (by simp [results, Tryd.results42, go_sem, hres]) rfl ⟨_, _, rfl, TA_two (k0 := c0') (k1 := c1') H2.out ?_ ?_ ?_ f0 f1, ?_⟩
      · omega
      · rw [cell_set_new]; rfl
      · rw [cell_set_new]; rfl
      · exact ((E0.out.trans hcr.1).set (by simp) _).alloc _

end Go.Proofs.YthdihpcpobhadaaDoor
