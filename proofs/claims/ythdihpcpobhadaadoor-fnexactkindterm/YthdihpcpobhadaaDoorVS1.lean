/- Walks: whether two types are the same, by the program. -/
import Derived.Test.YthdihpcpobhadaaDoorW5

namespace Go.Proofs.YthdihpcpobhadaaDoor

open Go.RowKit Go.Deep

attribute [local go_sem ↓] Go.wp_at_zero Go.wp_at_succ

theorem eqT_two {f g : F} (hf : len f = 2) (hg : len g = 2) : eqT f g = (eqT (kid f 0) (kid g 0) && eqT (kid f 1) (kid g 1)) := by
  cases h0 : eqT (kid f 0) (kid g 0)
  · rw [eqT_bad f g 0 (by omega) h0]; rfl
  · cases h1 : eqT (kid f 1) (kid g 1)
    · rw [eqT_bad f g 1 (by omega) h1]; rfl
    · refine eqT_good f g (by omega) fun i hi => ?_
      have : i = 0 ∨ i = 1 := by omega
      rcases this with rfl | rfl
      · exact h0
      · exact h1

theorem eqT_zero {f g : F} (hf : len f = 0) (hg : len g = 0) : eqT f g = true := eqT_good f g (by omega) fun i hi => by omega

set_option linter.unusedSimpArgs false in
set_option maxRecDepth 100000 in
set_option maxHeartbeats 2000000 in
theorem typeSame_any : ∀ (r : Nat) (f g : F) (a a' : Option Addr) (c c' lo lo' : Nat) (w : World), fits r f = true → fits r g = true → TA w lo f a → TA w lo' g a' →
    Calls Tryd.prog 76 #[.agg #[.slice a (len f) c], .agg #[.slice a' (len g) c']] w fun e w' => e = .returned (.bool (eqT f g)) ∧ Ex w w'
  | 0, f, g, a, a', c, c', lo, lo', w, hf, hg, hT, hT' => by simp [fits] at hf
  | r + 1, f, g, a, a', c, c', lo, lo', w, hf, hg, hT, hT' => by
    by_cases h0 : len f = 0
    · have h0' : ((len f : Int) == 0) = true := by simp [h0]
      have R : Hid (((len f : Int) == (len g : Int)) = eqT f g) := by
        show _ = _
        by_cases h1 : len g = 0
        · rw [eqT_zero h0 h1]; simp [h0, h1]
        · rw [eqT_len f g (by omega)]; simp; omega
      clear hf hg hT hT' h0
      go_enter Tryd.func76, Tryd.ntmps76
      go_wp2_with fail
      go_ret
      exact ⟨ret_b R.out, (Ex.new _ _).alloc _⟩
    · have h0' : ((len f : Int) == 0) = false := by simp [h0]
      by_cases h1 : len g = 0
      · have h1' : ((len g : Int) == 0) = true := by simp [h1]
        have R : Hid (((len f : Int) == (len g : Int)) = eqT f g) := by
          show _ = _
          rw [eqT_len f g (by omega)]; simp; omega
        clear hf hg hT hT' h0 h1
        go_enter Tryd.func76, Tryd.ntmps76
        go_wp2_with fail
        go_ret
        exact ⟨ret_b R.out, (Ex.new _ _).alloc _⟩
      · have h2 : len f = 2 := by have := fits_len hf; omega
        have h2g : len g = 2 := by have := fits_len hg; omega
        rw [fits_two h2, Bool.and_eq_true] at hf
        rw [fits_two h2g, Bool.and_eq_true] at hg
        obtain ⟨b, o, rfl, hlo, hbs, hk⟩ := TA_at hT (by omega)
        obtain ⟨a0, c0, hc0, ht0⟩ := hk 0 (by omega)
        obtain ⟨a1, c1, hc1, ht1⟩ := hk 1 (by omega)
        rw [Nat.add_zero] at hc0
        obtain ⟨b', o', rfl, hlo', hbs', hk'⟩ := TA_at hT' (by omega)
        obtain ⟨a0', c0', hc0', ht0'⟩ := hk' 0 (by omega)
        obtain ⟨a1', c1', hc1', ht1'⟩ := hk' 1 (by omega)
        rw [Nat.add_zero] at hc0'
        have E0 : Hid (Ex w ((w.alloc (.cells #[.slice (some ⟨b, o, none⟩) 2 c] 32)).alloc (.cells #[.slice (some ⟨b', o', none⟩) 2 c'] 32))) := (Ex.new _ _).alloc _
        have KS : Hid (∀ w', Ex ((w.alloc (.cells #[.slice (some ⟨b, o, none⟩) 2 c] 32)).alloc (.cells #[.slice (some ⟨b', o', none⟩) 2 c'] 32)) w' → (Ex ((w.alloc (.cells #[.slice (some ⟨b, o, none⟩) 2 c] 32)).alloc (.cells #[.slice (some ⟨b', o', none⟩) 2 c'] 32)) w' ∧ w'.cell? ⟨w.heap.size, 0, none⟩ = some (.slice (some ⟨b, o, none⟩) 2 c) ∧ w'.cell? ⟨w.heap.size + 1, 0, none⟩ = some (.slice (some ⟨b', o', none⟩) 2 c') ∧ w'.cell? ⟨b, o, none⟩ = some (.slice a0 (len (kid f 0)) c0) ∧ w'.cell? ⟨b, o + 1, none⟩ = some (.slice a1 (len (kid f 1)) c1) ∧ w'.cell? ⟨b', o', none⟩ = some (.slice a0' (len (kid g 0)) c0') ∧ w'.cell? ⟨b', o' + 1, none⟩ = some (.slice a1' (len (kid g 1)) c1'))) := fun w' h => ⟨h, Ex.at h (by simp), Ex.at h (by simp), Ex.at h (Ex.at ((Ex.new _ _).alloc _) hc0), Ex.at h (Ex.at ((Ex.new _ _).alloc _) hc1), Ex.at h (Ex.at ((Ex.new _ _).alloc _) hc0'), Ex.at h (Ex.at ((Ex.new _ _).alloc _) hc1')⟩
        have R : Hid (eqT f g = (eqT (kid f 0) (kid g 0) && eqT (kid f 1) (kid g 1))) := eqT_two h2 h2g
        have J0 : Hid (∀ w', Ex w w' → Calls Tryd.prog 76 #[.agg #[.slice a0 (len (kid f 0)) c0], .agg #[.slice a0' (len (kid g 0)) c0']] w' fun e w'' => e = .returned (.bool (eqT (kid f 0) (kid g 0))) ∧ Ex w' w'') := fun w' h => typeSame_any r (kid f 0) (kid g 0) a0 a0' c0 c0' lo lo' w' hf.1 hg.1 (TA_below ht0 h) (TA_below ht0' h)
        have I1 : Hid (∀ w', Ex w w' → Calls Tryd.prog 76 #[.agg #[.slice a1 (len (kid f 1)) c1], .agg #[.slice a1' (len (kid g 1)) c1']] w' fun e w'' => e = .returned (.bool (eqT (kid f 1) (kid g 1))) ∧ Ex w' w'') := fun w' h => typeSame_any r (kid f 1) (kid g 1) a1 a1' c1 c1' lo lo' w' hf.2 hg.2 (TA_below ht1 h) (TA_below ht1' h)
        generalize eqT f g = res at *
        generalize eqT (kid f 0) (kid g 0) = x0 at *
        generalize eqT (kid f 1) (kid g 1) = x1 at *
        rw [h2, h2g]
        clear hk hk' hT hT' ht0 ht1 ht0' ht1' hf hg h2 h2g h0 h1 h0'
        cases x0
        · have I0 : Hid (∀ w', Ex w w' → Calls Tryd.prog 76 #[.agg #[.slice a0 (len (kid f 0)) c0], .agg #[.slice a0' (len (kid g 0)) c0']] w' fun e w'' => e = .returned (.bool false) ∧ Ex w' w'') := J0
          go_enter Tryd.func76, Tryd.ntmps76
          go_wp2_with fail
          refine wp_region_held_drew (S := fun w' => Ex ((w.alloc (.cells #[.slice (some ⟨b, o, none⟩) 2 c] 32)).alloc (.cells #[.slice (some ⟨b', o', none⟩) 2 c'] 32)) w' ∧ w'.cell? ⟨w.heap.size, 0, none⟩ = some (.slice (some ⟨b, o, none⟩) 2 c) ∧ w'.cell? ⟨w.heap.size + 1, 0, none⟩ = some (.slice (some ⟨b', o', none⟩) 2 c') ∧ w'.cell? ⟨b, o, none⟩ = some (.slice a0 (len (kid f 0)) c0) ∧ w'.cell? ⟨b, o + 1, none⟩ = some (.slice a1 (len (kid f 1)) c1) ∧ w'.cell? ⟨b', o', none⟩ = some (.slice a0' (len (kid g 0)) c0') ∧ w'.cell? ⟨b', o' + 1, none⟩ = some (.slice a1' (len (kid g 1)) c1')) (by kernel_rfl) (KS.out _ (Ex.refl _).drew) (fun hHeld => ?_)
          refine wpAnyH_take (i := 0) (v := ?_) rfl (by kernel_rfl) (by kernel_rfl) (by kernel_rfl) (fun _ _ _ h => h) (Or.inl ⟨by rfl, ?_⟩) (by assumption) ?_
          rotate_left
          · (intro w' hSw; (try dsimp only at hSw); go_simp) <;> with_reducible rfl
          change wpAnyH Tryd.prog _ _ _ _ _ _ (Act.put _ (some 22) _) _
          (try simp only [Act.put, List.setIfInBounds_toArray, List.set_cons_zero, List.set_cons_succ])
          refine wpAnyH_take (i := 1) (v := ?_) rfl (by kernel_rfl) (by kernel_rfl) (by kernel_rfl) (fun _ _ _ h => h) (Or.inl ⟨by rfl, ?_⟩) (by assumption) ?_
          rotate_left
          · (intro w' hSw; (try dsimp only at hSw); go_simp) <;> with_reducible rfl
          change wpAnyH Tryd.prog _ _ _ _ _ _ (Act.put _ (some 23) _) _
          (try simp only [Act.put, List.setIfInBounds_toArray, List.set_cons_zero, List.set_cons_succ])
          refine wpAnyH_take (i := 2) (v := ?_) rfl (by kernel_rfl) (by kernel_rfl) (by kernel_rfl) (fun _ _ _ h => h) (Or.inl ⟨by rfl, ?_⟩) (by assumption) ?_
          rotate_left
          · (intro w' hSw; (try dsimp only at hSw); go_simp) <;> with_reducible rfl
          change wpAnyH Tryd.prog _ _ _ _ _ _ (Act.put _ (some 24) _) _
          (try simp only [Act.put, List.setIfInBounds_toArray, List.set_cons_zero, List.set_cons_succ])
          refine wpAnyH_take (i := 3) (v := ?_) rfl (by kernel_rfl) (by kernel_rfl) (by kernel_rfl) (fun _ _ _ h => h) (Or.inl ⟨by rfl, ?_⟩) (by assumption) ?_
          rotate_left
          · (intro w' hSw; (try dsimp only at hSw); go_simp) <;> with_reducible rfl
          change wpAnyH Tryd.prog _ _ _ _ _ _ (Act.put _ (some 25) _) _
          (try simp only [Act.put, List.setIfInBounds_toArray, List.set_cons_zero, List.set_cons_succ])
          refine wpAnyH_take (i := 4) (v := ?_) rfl (by kernel_rfl) (by kernel_rfl) (by kernel_rfl) (fun _ _ _ h => h) (Or.inl ⟨by rfl, ?_⟩) (by assumption) ?_
          rotate_left
          · (intro w' hSw; (try dsimp only at hSw); go_simp) <;> with_reducible rfl
          change wpAnyH Tryd.prog _ _ _ _ _ _ (Act.put _ (some 26) _) _
          (try simp only [Act.put, List.setIfInBounds_toArray, List.set_cons_zero, List.set_cons_succ])
          refine wpAnyH_take (i := 5) (v := ?_) rfl (by kernel_rfl) (by kernel_rfl) (by kernel_rfl) (fun _ _ _ h => h) (Or.inl ⟨by rfl, ?_⟩) (by assumption) ?_
          rotate_left
          · (intro w' hSw; (try dsimp only at hSw); go_simp) <;> with_reducible rfl
          change wpAnyH Tryd.prog _ _ _ _ _ _ (Act.put _ (some 27) _) _
          (try simp only [Act.put, List.setIfInBounds_toArray, List.set_cons_zero, List.set_cons_succ])
          refine wpAnyH_take (i := 6) (v := ?_) rfl (by kernel_rfl) (by kernel_rfl) (by kernel_rfl) (fun _ _ _ h => h) (Or.inl ⟨by rfl, ?_⟩) (by assumption) ?_
          rotate_left
          · (intro w' hSw; (try dsimp only at hSw); go_simp) <;> with_reducible rfl
          change wpAnyH Tryd.prog _ _ _ _ _ _ (Act.put _ (some 28) _) _
          (try simp only [Act.put, List.setIfInBounds_toArray, List.set_cons_zero, List.set_cons_succ])
          refine wpAnyH_take (i := 7) (v := ?_) rfl (by kernel_rfl) (by kernel_rfl) (by kernel_rfl) (fun _ _ _ h => h) (Or.inl ⟨by rfl, ?_⟩) (by assumption) ?_
          rotate_left
          · (intro w' hSw; (try dsimp only at hSw); go_simp) <;> with_reducible rfl
          change wpAnyH Tryd.prog _ _ _ _ _ _ (Act.put _ (some 29) _) _
          (try simp only [Act.put, List.setIfInBounds_toArray, List.set_cons_zero, List.set_cons_succ])
          refine wpAnyH_ready (rs := [8]) (by kernel_rfl) (by simp) ?_
          refine AllReadyH.cons (i := 8) rfl (fun K hK => ?_) AllReadyH.nil
          go_simp
          refine (I0.out _ (Ex.trans E0.out (And.left hHeld))).mono ?_
          rintro e w1 ⟨rfl, hb0⟩
          have hx1 := Ex.trans (And.left hHeld) hb0
          go_wp2_with fail
          refine hK.out _ _ ?_ (fun hHeld1 => ?_)
          · exact KS.out _ hx1
          clear hK hHeld
          (try simp only [Act.put, List.setIfInBounds_toArray, List.set_cons_zero, List.set_cons_succ])
          refine wpAnyH_take (i := 9) (v := ?_) rfl (by kernel_rfl) (by kernel_rfl) (by kernel_rfl) (fun _ _ _ h => h) (Or.inl ⟨by rfl, ?_⟩) (by assumption) ?_
          rotate_left
          · (intro w' hSw; (try dsimp only at hSw); go_simp) <;> with_reducible rfl
          change wpAnyH Tryd.prog _ _ _ _ _ _ (Act.put _ (some 31) _) _
          (try simp only [Act.put, List.setIfInBounds_toArray, List.set_cons_zero, List.set_cons_succ])
          refine wpAnyH_take (i := 10) (v := undef) rfl (by kernel_rfl) (by kernel_rfl) (by kernel_rfl) (fun _ _ _ h => h) (Or.inr ⟨by kernel_rfl, rfl⟩) (by assumption) ?_
          change wpAnyH Tryd.prog _ _ _ _ _ _ (Act.put _ (some 32) _) _
          (try simp only [Act.put, List.setIfInBounds_toArray, List.set_cons_zero, List.set_cons_succ])
          refine wpAnyH_take (i := 11) (v := undef) rfl (by kernel_rfl) (by kernel_rfl) (by kernel_rfl) (fun _ _ _ h => h) (Or.inr ⟨by kernel_rfl, rfl⟩) (by assumption) ?_
          change wpAnyH Tryd.prog _ _ _ _ _ _ (Act.put _ (some 33) _) _
          (try simp only [Act.put, List.setIfInBounds_toArray, List.set_cons_zero, List.set_cons_succ])
          refine wpAnyH_take (i := 12) (v := undef) rfl (by kernel_rfl) (by kernel_rfl) (by kernel_rfl) (fun _ _ _ h => h) (Or.inr ⟨by kernel_rfl, rfl⟩) (by assumption) ?_
          change wpAnyH Tryd.prog _ _ _ _ _ _ (Act.put _ (some 34) _) _
          (try simp only [Act.put, List.setIfInBounds_toArray, List.set_cons_zero, List.set_cons_succ])
          refine wpAnyH_take (i := 13) (v := undef) rfl (by kernel_rfl) (by kernel_rfl) (by kernel_rfl) (fun _ _ _ h => h) (Or.inr ⟨by kernel_rfl, rfl⟩) (by assumption) ?_
          change wpAnyH Tryd.prog _ _ _ _ _ _ (Act.put _ (some 35) _) _
          (try simp only [Act.put, List.setIfInBounds_toArray, List.set_cons_zero, List.set_cons_succ])
          refine wpAnyH_take (i := 14) (v := undef) rfl (by kernel_rfl) (by kernel_rfl) (by kernel_rfl) (fun _ _ _ h => h) (Or.inr ⟨by kernel_rfl, rfl⟩) (by assumption) ?_
          change wpAnyH Tryd.prog _ _ _ _ _ _ (Act.put _ (some 36) _) _
          (try simp only [Act.put, List.setIfInBounds_toArray, List.set_cons_zero, List.set_cons_succ])
          refine wpAnyH_take (i := 15) (v := undef) rfl (by kernel_rfl) (by kernel_rfl) (by kernel_rfl) (fun _ _ _ h => h) (Or.inr ⟨by kernel_rfl, rfl⟩) (by assumption) ?_
          change wpAnyH Tryd.prog _ _ _ _ _ _ (Act.put _ (some 37) _) _
          (try simp only [Act.put, List.setIfInBounds_toArray, List.set_cons_zero, List.set_cons_succ])
          refine wpAnyH_take (i := 16) (v := undef) rfl (by kernel_rfl) (by kernel_rfl) (by kernel_rfl) (fun _ _ _ h => h) (Or.inr ⟨by kernel_rfl, rfl⟩) (by assumption) ?_
          change wpAnyH Tryd.prog _ _ _ _ _ _ (Act.put _ (some 38) _) _
          (try simp only [Act.put, List.setIfInBounds_toArray, List.set_cons_zero, List.set_cons_succ])
          refine wpAnyH_take (i := 17) (v := undef) rfl (by kernel_rfl) (by kernel_rfl) (by kernel_rfl) (fun _ _ _ h => h) (Or.inr ⟨by kernel_rfl, rfl⟩) (by assumption) ?_
          change wpAnyH Tryd.prog _ _ _ _ _ _ (Act.put _ (some 39) _) _
          (try simp only [Act.put, List.setIfInBounds_toArray, List.set_cons_zero, List.set_cons_succ])
          refine wpAnyH_take (i := 18) (v := undef) rfl (by kernel_rfl) (by kernel_rfl) (by kernel_rfl) (fun _ _ _ h => h) (Or.inr ⟨by kernel_rfl, rfl⟩) (by assumption) ?_
          change wpAnyH Tryd.prog _ _ _ _ _ _ (Act.put _ (some 40) _) _
          (try simp only [Act.put, List.setIfInBounds_toArray, List.set_cons_zero, List.set_cons_succ])
          refine wpAnyH_take (i := 19) (v := ?_) rfl (by kernel_rfl) (by kernel_rfl) (by kernel_rfl) (fun _ _ _ h => h) (Or.inl ⟨by rfl, ?_⟩) (by assumption) ?_
          rotate_left
          · (intro w' hSw; (try dsimp only at hSw); go_simp) <;> with_reducible rfl
          change wpAnyH Tryd.prog _ _ _ _ _ _ (Act.put _ (some 41) _) _
          (try simp only [Act.put, List.setIfInBounds_toArray, List.set_cons_zero, List.set_cons_succ])
          refine wpAnyH_take (i := 20) (v := ?_) rfl (by kernel_rfl) (by kernel_rfl) (by kernel_rfl) (fun _ _ _ h => h) (Or.inl ⟨by rfl, ?_⟩) (by assumption) ?_
          rotate_left
          · (intro w' hSw; (try dsimp only at hSw); go_simp) <;> with_reducible rfl
          change wpAnyH Tryd.prog _ _ _ _ _ _ (Act.put _ (some 4) _) _
          (try simp only [Act.put, List.setIfInBounds_toArray, List.set_cons_zero, List.set_cons_succ])
          refine wpAnyH_done (by kernel_rfl) ?_ _
          go_wp2_with fail
          go_ret
          exact ⟨by rw [R.out]; rfl, E0.out.trans hx1⟩
        · have I0 : Hid (∀ w', Ex w w' → Calls Tryd.prog 76 #[.agg #[.slice a0 (len (kid f 0)) c0], .agg #[.slice a0' (len (kid g 0)) c0']] w' fun e w'' => e = .returned (.bool true) ∧ Ex w' w'') := J0
          go_enter Tryd.func76, Tryd.ntmps76
          go_wp2_with fail
          go_region_held3 (fun w' => Ex ((w.alloc (.cells #[.slice (some ⟨b, o, none⟩) 2 c] 32)).alloc (.cells #[.slice (some ⟨b', o', none⟩) 2 c'] 32)) w' ∧ w'.cell? ⟨w.heap.size, 0, none⟩ = some (.slice (some ⟨b, o, none⟩) 2 c) ∧ w'.cell? ⟨w.heap.size + 1, 0, none⟩ = some (.slice (some ⟨b', o', none⟩) 2 c') ∧ w'.cell? ⟨b, o, none⟩ = some (.slice a0 (len (kid f 0)) c0) ∧ w'.cell? ⟨b, o + 1, none⟩ = some (.slice a1 (len (kid f 1)) c1) ∧ w'.cell? ⟨b', o', none⟩ = some (.slice a0' (len (kid g 0)) c0') ∧ w'.cell? ⟨b', o' + 1, none⟩ = some (.slice a1' (len (kid g 1)) c1')) ((refine KS.out _ ?_; first | exact (Ex.refl _).drew | exact Ex.trans (And.left ‹Ex _ _ ∧ _›) ‹Ex _ _› | exact (And.left ‹Ex _ _ ∧ _›))) (first | (go_at_call_of 76 (Value.slice a0 (len (kid f 0)) c0); refine (I0.out _ (Ex.trans E0.out (And.left ‹Ex _ _ ∧ _›))).mono ?_; rintro e w1 ⟨rfl, hb0⟩) | (go_at_call_of 76 (Value.slice a1 (len (kid f 1)) c1); refine (I1.out _ (Ex.trans E0.out (And.left ‹Ex _ _ ∧ _›))).mono ?_; rintro e w2 ⟨rfl, hb1⟩))
          go_wp2_with fail
          go_ret
          exact ⟨ret_b (by rw [R.out]; rfl), E0.out.trans (And.left ‹Ex _ _ ∧ _›)⟩

end Go.Proofs.YthdihpcpobhadaaDoor
