/- Walks: a value copied. -/
import Derived.Test.YtomnekiiccbioaaV5
namespace Go.Proofs.Ytomnekiiccbioaa
open Go.RowKit Go.Deep
attribute [local go_sem ↓] Go.wp_at_zero Go.wp_at_succ

theorem vType_some {r : Nat} {n : Int} {f u : F} (h : vType (r + 1) n f = some u) : len f = 0 ∨ (len f = 2 ∧ n = 0 ∧ ∃ a b, vType r (num f 0) (kid f 0) = some a ∧ vType r (num f 1) (kid f 1) = some b) := by
  by_cases h0 : len f = 0
  · exact Or.inl h0
  · by_cases hb : len f = 2 ∧ n = 0
    · rw [vType_two hb.1 hb.2] at h
      cases ha : vType r (num f 0) (kid f 0) with
      | none => rw [ha] at h; cases h
      | some a =>
        cases hc : vType r (num f 1) (kid f 1) with
        | none => rw [ha, hc] at h; cases h
        | some b => exact Or.inr ⟨hb.1, hb.2, a, b, rfl, rfl⟩
    · rw [vType_bad h0 hb] at h; cases h

set_option maxRecDepth 100000 in
set_option maxHeartbeats 2000000 in
theorem valCopy_any : ∀ (r : Nat) (n : Int) (f u : F) (a : Option Addr) (cap : Nat) (lo : Nat) (w : World), vType r n f = some u → VA w lo f a →
    Calls Try.prog 74 #[.agg #[.int .i64 n, .slice a (len f) cap]] w fun e w' => ∃ a' cap', e = .returned (.agg #[.int .i64 n, .slice a' (len f) cap']) ∧ VA w' w.heap.size f a' ∧ Ex w w'
  | 0, n, f, u, a, cap, lo, w, hf, hT => by simp [vType] at hf
  | r + 1, n, f, u, a, cap, lo, w, hf, hT => by
    by_cases h0 : len f = 0
    · have h0' : ((len f : Int) == 0) = true := by simp [h0]
      have H0 : Hid (len f = 0) := h0
      clear h0 hf hT
      go_enter Try.func74, Try.ntmps74
      go_wp2_with fail
      refine bodyPost_ret (v := .agg #[.int .i64 n, .slice none 0 0]) (by simp [results, Try.results74, go_sem]) rfl ⟨none, 0, by rw [H0.out], Or.inl H0.out, ?_⟩
      exact ((Ex.new _ _).alloc _)
    · obtain h1 | ⟨h2, hn, ua, ub, hua, hub⟩ := vType_some hf
      · exact absurd h1 h0
      subst hn
      obtain ⟨b, o, a0, a1, c0, c1, rfl, hlo, hbs, n0, hc0, n1, hc1, t0, t1⟩ := VA_pair hT h2
      have I0 : Hid (∀ w', Ex w w' → Calls Try.prog 74 #[.agg #[.int .i64 (num f 0), .slice a0 (len (kid f 0)) c0]] w' fun e w'' => ∃ a' cap', e = .returned (.agg #[.int .i64 (num f 0), .slice a' (len (kid f 0)) cap']) ∧ VA w'' w'.heap.size (kid f 0) a' ∧ Ex w' w'') := fun w' h => valCopy_any r (num f 0) (kid f 0) ua a0 c0 lo w' hua (VA_below t0 h)
      have I1 : Hid (∀ w', Ex w w' → Calls Try.prog 74 #[.agg #[.int .i64 (num f 1), .slice a1 (len (kid f 1)) c1]] w' fun e w'' => ∃ a' cap', e = .returned (.agg #[.int .i64 (num f 1), .slice a' (len (kid f 1)) cap']) ∧ VA w'' w'.heap.size (kid f 1) a' ∧ Ex w' w'') := fun w' h => valCopy_any r (num f 1) (kid f 1) ub a1 c1 lo w' hub (VA_below t1 h)
      have H2 : Hid (len f = 2) := h2
      have E0 : Hid (Ex w (w.alloc (.cells #[.int .i64 0, .slice (some ⟨b, o, none⟩) 2 cap] 39))) := Ex.new _ _
      have KS : Hid (∀ w', Core (w.alloc (.cells #[.int .i64 0, .slice (some ⟨b, o, none⟩) 2 cap] 39)) (w.heap.size + 1) 2 39 w' → (Core (w.alloc (.cells #[.int .i64 0, .slice (some ⟨b, o, none⟩) 2 cap] 39)) (w.heap.size + 1) 2 39 w' ∧ w'.cell? ⟨w.heap.size, 1, none⟩ = some (.slice (some ⟨b, o, none⟩) 2 cap) ∧ w'.cell? ⟨b, o, none⟩ = some (.int .i64 (num f 0)) ∧ w'.cell? ⟨b, o + 1, none⟩ = some (.slice a0 (len (kid f 0)) c0) ∧ w'.cell? ⟨b, o + 2, none⟩ = some (.int .i64 (num f 1)) ∧ w'.cell? ⟨b, o + 3, none⟩ = some (.slice a1 (len (kid f 1)) c1))) := fun w' h => ⟨h, Ex.at h.1 (by simp), Ex.at h.1 (Ex.at (Ex.new _ _) n0), Ex.at h.1 (Ex.at (Ex.new _ _) hc0), Ex.at h.1 (Ex.at (Ex.new _ _) n1), Ex.at h.1 (Ex.at (Ex.new _ _) hc1)⟩
      have C0 : Hid (Core (w.alloc (.cells #[.int .i64 0, .slice (some ⟨b, o, none⟩) 2 cap] 39)) (w.heap.size + 1) 2 39 ((w.alloc (.cells #[.int .i64 0, .slice (some ⟨b, o, none⟩) 2 cap] 39)).alloc (.cells #[.int .i64 0, .slice none 0 0] 39))) := by
        have := Core.start (w.alloc (.cells #[.int .i64 0, .slice (some ⟨b, o, none⟩) 2 cap] 39)) #[.int .i64 0, .slice none 0 0] 39
        rw [World.size_alloc] at this; exact this
      rw [h2]
      clear hT t0 t1 hf h2 h0 hua hub n0 n1 hc0 hc1
      go_enter Try.func74, Try.ntmps74
      go_wp2_with fail
      go_region_held3 (fun w' => Core (w.alloc (.cells #[.int .i64 0, .slice (some ⟨b, o, none⟩) 2 cap] 39)) (w.heap.size + 1) 2 39 w' ∧ w'.cell? ⟨w.heap.size, 1, none⟩ = some (.slice (some ⟨b, o, none⟩) 2 cap) ∧ w'.cell? ⟨b, o, none⟩ = some (.int .i64 (num f 0)) ∧ w'.cell? ⟨b, o + 1, none⟩ = some (.slice a0 (len (kid f 0)) c0) ∧ w'.cell? ⟨b, o + 2, none⟩ = some (.int .i64 (num f 1)) ∧ w'.cell? ⟨b, o + 3, none⟩ = some (.slice a1 (len (kid f 1)) c1)) ((refine KS.out _ ?_; first | exact Core.drew C0.out | exact Core.ex (And.left ‹Core _ _ _ _ _ ∧ _›) ‹Ex _ _› | exact Core.alloc (And.left ‹Core _ _ _ _ _ ∧ _›) _ | exact Core.set (Core.set (And.left ‹Core _ _ _ _ _ ∧ _›) _ _ (by simp) _) _ _ (by simp) _ | exact Core.alloc (Core.set (Core.set (by assumption) _ _ (by simp) _) _ _ (by simp) _) _)) (first | (go_at_call_of 74 (Value.slice a0 (len (kid f 0)) c0); refine (I0.out _ (Ex.trans E0.out (And.left ‹Core _ _ _ _ _ ∧ _›).1)).mono ?_; rintro e w1 ⟨a0', c0', rfl, ht0', hb0⟩) | (go_at_call_of 74 (Value.slice a1 (len (kid f 1)) c1); refine (I1.out _ (Ex.trans E0.out (And.left ‹Core _ _ _ _ _ ∧ _›).1)).mono ?_; rintro e w2 ⟨a1', c1', rfl, ht1', hb1⟩; have hcr := Core.ex (And.left ‹Core _ _ _ _ _ ∧ _›) hb1; obtain ⟨vr, hvr⟩ := hcr.cell 0 (by omega); obtain ⟨vs, hvs⟩ := hcr.cell 1 (by omega); have hfr := hcr.frozen 0; have hfs := hcr.frozen 1; have hlr := hcr.lt))
      go_wp2_with fail
      have hz : w.heap.size + 2 ≤ w1.heap.size := by have := hb0.size; simpa using this
      have hsz : ((w2.setCell ⟨w.heap.size + 1, 0, none⟩ (.int .i64 0)).setCell ⟨w.heap.size + 1, 1, none⟩ (.slice (some ⟨w2.heap.size, 0, none⟩) 2 2)).heap.size = w2.heap.size := by rw [World.size_setCell, World.size_setCell]
      have k1 : Kp (w.heap.size + 2) w1 (((w2.setCell ⟨w.heap.size + 1, 0, none⟩ (.int .i64 0)).setCell ⟨w.heap.size + 1, 1, none⟩ (.slice (some ⟨w2.heap.size, 0, none⟩) 2 2)).alloc (.cells #[.int .i64 (num f 0), .slice a0' (len (kid f 0)) c0', .int .i64 (num f 1), .slice a1' (len (kid f 1)) c1'] 39)) := (((Kp.of_below hb1 _).set (Or.inl (by simp)) _).set (Or.inl (by simp)) _).alloc _
      have k2 : Kp (w.heap.size + 2) w2 (((w2.setCell ⟨w.heap.size + 1, 0, none⟩ (.int .i64 0)).setCell ⟨w.heap.size + 1, 1, none⟩ (.slice (some ⟨w2.heap.size, 0, none⟩) 2 2)).alloc (.cells #[.int .i64 (num f 0), .slice a0' (len (kid f 0)) c0', .int .i64 (num f 1), .slice a1' (len (kid f 1)) c1'] 39)) := (((Kp.refl _ _).set (Or.inl (by simp)) _).set (Or.inl (by simp)) _).alloc _
      have f0 : VA (((w2.setCell ⟨w.heap.size + 1, 0, none⟩ (.int .i64 0)).setCell ⟨w.heap.size + 1, 1, none⟩ (.slice (some ⟨w2.heap.size, 0, none⟩) 2 2)).alloc (.cells #[.int .i64 (num f 0), .slice a0' (len (kid f 0)) c0', .int .i64 (num f 1), .slice a1' (len (kid f 1)) c1'] 39)) w.heap.size (kid f 0) a0' := VA_lo (VA_kp (VA_lo ht0' (by simp)) k1) (by omega)
      have f1 : VA (((w2.setCell ⟨w.heap.size + 1, 0, none⟩ (.int .i64 0)).setCell ⟨w.heap.size + 1, 1, none⟩ (.slice (some ⟨w2.heap.size, 0, none⟩) 2 2)).alloc (.cells #[.int .i64 (num f 0), .slice a0' (len (kid f 0)) c0', .int .i64 (num f 1), .slice a1' (len (kid f 1)) c1'] 39)) w.heap.size (kid f 1) a1' := VA_lo (VA_kp (VA_lo ht1' hz) k2) (by omega)
      have e0 := World.cell?_alloc_new ((w2.setCell ⟨w.heap.size + 1, 0, none⟩ (.int .i64 0)).setCell ⟨w.heap.size + 1, 1, none⟩ (.slice (some ⟨w2.heap.size, 0, none⟩) 2 2)) #[.int .i64 (num f 0), .slice a0' (len (kid f 0)) c0', .int .i64 (num f 1), .slice a1' (len (kid f 1)) c1'] 39 0
      have e1 := World.cell?_alloc_new ((w2.setCell ⟨w.heap.size + 1, 0, none⟩ (.int .i64 0)).setCell ⟨w.heap.size + 1, 1, none⟩ (.slice (some ⟨w2.heap.size, 0, none⟩) 2 2)) #[.int .i64 (num f 0), .slice a0' (len (kid f 0)) c0', .int .i64 (num f 1), .slice a1' (len (kid f 1)) c1'] 39 1
      have e2 := World.cell?_alloc_new ((w2.setCell ⟨w.heap.size + 1, 0, none⟩ (.int .i64 0)).setCell ⟨w.heap.size + 1, 1, none⟩ (.slice (some ⟨w2.heap.size, 0, none⟩) 2 2)) #[.int .i64 (num f 0), .slice a0' (len (kid f 0)) c0', .int .i64 (num f 1), .slice a1' (len (kid f 1)) c1'] 39 2
      have e3 := World.cell?_alloc_new ((w2.setCell ⟨w.heap.size + 1, 0, none⟩ (.int .i64 0)).setCell ⟨w.heap.size + 1, 1, none⟩ (.slice (some ⟨w2.heap.size, 0, none⟩) 2 2)) #[.int .i64 (num f 0), .slice a0' (len (kid f 0)) c0', .int .i64 (num f 1), .slice a1' (len (kid f 1)) c1'] 39 3
      rw [hsz] at e0 e1 e2 e3
      have hr1 : (((w2.setCell ⟨w.heap.size + 1, 0, none⟩ (.int .i64 0)).setCell ⟨w.heap.size + 1, 1, none⟩ (.slice (some ⟨w2.heap.size, 0, none⟩) 2 2)).alloc (.cells #[.int .i64 (num f 0), .slice a0' (len (kid f 0)) c0', .int .i64 (num f 1), .slice a1' (len (kid f 1)) c1'] 39)).cell? ⟨w.heap.size + 1, 1, none⟩ = some (.slice (some ⟨w2.heap.size, 0, none⟩) 2 2) := by
        rw [World.cell?_alloc_lt _ _ _ (by rw [hsz]; exact hlr)]
        exact World.cell?_setCell_same _ _ _ (by rw [World.cell?_setCell_other _ _ _ _ (fun e => absurd (congrArg Addr.off e) (by simp))]; exact hvs)
      have hr0 : (((w2.setCell ⟨w.heap.size + 1, 0, none⟩ (.int .i64 0)).setCell ⟨w.heap.size + 1, 1, none⟩ (.slice (some ⟨w2.heap.size, 0, none⟩) 2 2)).alloc (.cells #[.int .i64 (num f 0), .slice a0' (len (kid f 0)) c0', .int .i64 (num f 1), .slice a1' (len (kid f 1)) c1'] 39)).cell? ⟨w.heap.size + 1, 0, none⟩ = some (.int .i64 0) := by
        rw [World.cell?_alloc_lt _ _ _ (by rw [hsz]; exact hlr), World.cell?_setCell_other _ _ _ _ (fun e => absurd (congrArg Addr.off e) (by simp))]
        exact World.cell?_setCell_same _ _ _ hvr
      refine bodyPost_ret (v := .agg #[.int .i64 0, .slice (some ⟨w2.heap.size, 0, none⟩) 2 2]) (by simp [results, Try.results74, go_sem, hr0, hr1]) rfl ⟨_, _, rfl, VA_two (k0 := c0') (k1 := c1') H2.out ?_ e0 e1 e2 e3 f0 f1, ?_⟩
      · have := hb1.size; omega
      · exact (((E0.out.trans hcr.1).set (by simp) _).set (by simp) _).alloc _

end Go.Proofs.Ytomnekiiccbioaa
