/- The exact laws on whether types are ok and on their texts, walked. -/
import Derived.Test.YtfbnenfnjmhhjaaE2
import Derived.Test.YtfbnenfnjmhhjaaW6
namespace Go.Proofs.Ytfbnenfnjmhhjaa
open Go.RowKit Go.Deep
attribute [local go_sem ↓] Go.wp_at_zero Go.wp_at_succ

set_option maxRecDepth 100000 in
set_option maxHeartbeats 2000000 in
theorem lawExactTypeOk (f : F) (a : Option Addr) (c lo : Nat) (w : World) (hl : len f ≤ 9223372036854775807) (hlm : Lm f) (hT : TA w lo f a) :
    Calls Try.prog 15 #[.agg #[.slice a (len f) c]] w fun e w' => e = .returned (.bool true) ∧ Ex w w' := by
  have T : Hid (∀ w', Ex w w' → TA w' lo f a) := fun _ h => TA_below hT h
  clear hT
  go_enter Try.func15, Try.ntmps15
  go_wp2_with fail
  refine ((szType_both (dep f + 1)).2 f a c lo 1048576 _ (by omega) hl hlm (by omega) (by omega) (T.out _ (Ex.new _ _))).mono ?_
  rintro e w1 ⟨x, rfl, hx0, hx1, hsm, hb1⟩
  by_cases hx : x < 0
  · go_wp2_with fail
    go_ret
    exact ⟨rfl, (Ex.new _ _).trans hb1⟩
  have SM : Hid (len f ≤ 1048576 ∧ Sm f) := hsm (by omega)
  have B : Hid (∀ w', Ex w1 w' → w'.cell? ⟨w.heap.size, 0, none⟩ = some (.slice a (len f) c)) := fun _ h => h.at (hb1.at (World.cell?_alloc_new _ _ _ _))
  have X1 : Hid (Ex w w1) := (Ex.new _ _).trans hb1
  have q1 := B.out w1 (Ex.refl _)
  have hto : Hid (∀ w', Ex w1 w' → Calls Try.prog 42 #[.agg #[.slice a (len f) c]] w' fun e w'' => ∃ a' c', e = .returned (.agg #[.slice a' (len f) c']) ∧ TA w'' w'.heap.size f a' ∧ Ex w' w'') := fun w' h =>
    (toType_both (dep f + 1)).2 f a c lo w' (by omega) (by have := SM.out; omega) SM.out.2 (T.out _ (X1.out.trans h))
  clear hsm hb1
  go_wp2_with fail
  refine (hto.out w1 (Ex.refl _)).mono ?_
  rintro e w2 ⟨a2, c2, rfl, ht2, hb2⟩
  go_wp2_with fail
  refine (sTypeOk_any f a2 c2 _ w2 ht2).mono ?_
  rintro e w3 ⟨rfl, hb3⟩
  have hx3 := hb2.trans hb3
  have q3 := B.out w3 hx3
  clear q1 ht2
  go_wp2_with fail
  refine (hto.out w3 hx3).mono ?_
  rintro e w4 ⟨a4, c4, rfl, ht4, hb4⟩
  have hx4 := hx3.trans hb4
  have T4 : Hid (∀ w', Ex w4 w' → TA w' w3.heap.size f a4) := fun _ h => TA_below ht4 h
  clear q3 ht4
  go_wp2_with fail
  refine (iTypeOk_any f a4 c4 _ _ (T4.out _ (Ex.new _ _))).mono ?_
  rintro e w5 ⟨rfl, hb5⟩
  have KS : Hid (∀ w', Ex (w4.alloc (.cells #[.slice a4 (len f) c4] 25)) w' → (Ex (w4.alloc (.cells #[.slice a4 (len f) c4] 25)) w' ∧ w'.cell? ⟨w.heap.size, 0, none⟩ = some (.slice a (len f) c) ∧ w'.cell? ⟨w4.heap.size, 0, none⟩ = some (.slice a4 (len f) c4))) := fun w' h => ⟨h, B.out w' (hx4.trans ((Ex.new _ _).trans h)), h.at (World.cell?_alloc_new _ _ _ _)⟩
  have X4 : Hid (Ex w1 (w4.alloc (.cells #[.slice a4 (len f) c4] 25))) := hx4.trans (Ex.new _ _)
  have q5 := B.out w5 (X4.out.trans hb5)
  have q6 : w5.cell? ⟨w4.heap.size, 0, none⟩ = some (.slice a4 (len f) c4) := hb5.at (World.cell?_alloc_new _ _ _ _)
  have heq : Hid (∀ w' a' c' lo', Ex (w4.alloc (.cells #[.slice a4 (len f) c4] 25)) w' → TA w' lo' f a' → Calls Try.prog 43 #[.agg #[.slice a4 (len f) c4], .agg #[.slice a' (len f) c']] w' fun e w'' => e = .returned (.bool true) ∧ Ex w' w'') := fun w' a' c' lo' h ht => by
    have := (eqType_both (dep f + 1)).2 f f a4 a' c4 c' _ lo' w' (by omega) (by have := SM.out; omega) SM.out.2 (T4.out _ ((Ex.new _ _).trans h)) ht
    rw [eqT_refl] at this; exact this
  have H5 : Hid (Ex (w4.alloc (.cells #[.slice a4 (len f) c4] 25)) w5) := hb5
  clear hb5 hb4 hb2 hb3 hx3 hx4
  go_wp2_with fail
  go_region_held3 (fun w' => Ex (w4.alloc (.cells #[.slice a4 (len f) c4] 25)) w' ∧ w'.cell? ⟨w.heap.size, 0, none⟩ = some (.slice a (len f) c) ∧ w'.cell? ⟨w4.heap.size, 0, none⟩ = some (.slice a4 (len f) c4)) ((refine KS.out _ ?_; first | exact H5.out.drew | exact Ex.trans (And.left ‹Ex _ _ ∧ _›) ‹Ex _ _›)) (first | (go_at_call 42; refine (hto.out _ (Ex.trans X4.out (And.left ‹Ex _ _ ∧ _›))).mono ?_; rintro e w6 ⟨a6, c6, rfl, ht6, hb6⟩) | (go_at_call 43; refine (heq.out _ _ _ _ (And.left ‹Ex _ _ ∧ _›) ht6).mono ?_; rintro e w7 ⟨rfl, hb7⟩))
  go_wp2_with fail
  go_ret
  exact ⟨rfl, X1.out.trans (X4.out.trans (And.left ‹Ex _ w7 ∧ _›))⟩

set_option maxRecDepth 100000 in
set_option maxHeartbeats 2000000 in
theorem lawExactTypeText (f : F) (a : Option Addr) (c lo : Nat) (w : World) (hl : len f ≤ 9223372036854775807) (hlm : Lm f) (hT : TA w lo f a) :
    Calls Try.prog 17 #[.agg #[.slice a (len f) c]] w fun e w' => e = .returned (.bool true) ∧ Ex w w' := by
  have T : Hid (∀ w', Ex w w' → TA w' lo f a) := fun _ h => TA_below hT h
  clear hT
  go_enter Try.func17, Try.ntmps17
  go_wp2_with fail
  refine ((szType_both (dep f + 1)).2 f a c lo 1048576 _ (by omega) hl hlm (by omega) (by omega) (T.out _ (Ex.new _ _))).mono ?_
  rintro e w1 ⟨x, rfl, hx0, hx1, hsm, hb1⟩
  by_cases hx : x < 0
  · go_wp2_with fail
    go_ret
    exact ⟨rfl, (Ex.new _ _).trans hb1⟩
  have SM : Hid (len f ≤ 1048576 ∧ Sm f) := hsm (by omega)
  have B : Hid (∀ w', Ex w1 w' → w'.cell? ⟨w.heap.size, 0, none⟩ = some (.slice a (len f) c)) := fun _ h => h.at (hb1.at (World.cell?_alloc_new _ _ _ _))
  have X1 : Hid (Ex w w1) := (Ex.new _ _).trans hb1
  have q1 := B.out w1 (Ex.refl _)
  have hto : Hid (∀ w', Ex w1 w' → Calls Try.prog 42 #[.agg #[.slice a (len f) c]] w' fun e w'' => ∃ a' c', e = .returned (.agg #[.slice a' (len f) c']) ∧ TA w'' w'.heap.size f a' ∧ Ex w' w'') := fun w' h =>
    (toType_both (dep f + 1)).2 f a c lo w' (by omega) (by have := SM.out; omega) SM.out.2 (T.out _ (X1.out.trans h))
  clear hsm hb1
  go_wp2_with fail
  refine (hto.out w1 (Ex.refl _)).mono ?_
  rintro e w2 ⟨a2, c2, rfl, ht2, hb2⟩
  go_wp2_with fail
  refine (sTypeText_any f a2 c2 _ w2 ht2).mono ?_
  rintro e w3 ⟨rfl, hb3⟩
  have hx3 := hb2.trans hb3
  have q3 := B.out w3 hx3
  clear q1 ht2
  go_wp2_with fail
  refine (hto.out w3 hx3).mono ?_
  rintro e w4 ⟨a4, c4, rfl, ht4, hb4⟩
  have hx4 := hx3.trans hb4
  have T4 : Hid (∀ w', Ex w4 w' → TA w' w3.heap.size f a4) := fun _ h => TA_below ht4 h
  clear q3 ht4
  go_wp2_with fail
  refine (iTypeText_any f a4 c4 _ _ (T4.out _ (Ex.new _ _))).mono ?_
  rintro e w5 ⟨rfl, hb5⟩
  have KS : Hid (∀ w', Ex (w4.alloc (.cells #[.slice a4 (len f) c4] 25)) w' → (Ex (w4.alloc (.cells #[.slice a4 (len f) c4] 25)) w' ∧ w'.cell? ⟨w.heap.size, 0, none⟩ = some (.slice a (len f) c) ∧ w'.cell? ⟨w4.heap.size, 0, none⟩ = some (.slice a4 (len f) c4))) := fun w' h => ⟨h, B.out w' (hx4.trans ((Ex.new _ _).trans h)), h.at (World.cell?_alloc_new _ _ _ _)⟩
  have X4 : Hid (Ex w1 (w4.alloc (.cells #[.slice a4 (len f) c4] 25))) := hx4.trans (Ex.new _ _)
  have q5 := B.out w5 (X4.out.trans hb5)
  have q6 : w5.cell? ⟨w4.heap.size, 0, none⟩ = some (.slice a4 (len f) c4) := hb5.at (World.cell?_alloc_new _ _ _ _)
  have heq : Hid (∀ w' a' c' lo', Ex (w4.alloc (.cells #[.slice a4 (len f) c4] 25)) w' → TA w' lo' f a' → Calls Try.prog 43 #[.agg #[.slice a4 (len f) c4], .agg #[.slice a' (len f) c']] w' fun e w'' => e = .returned (.bool true) ∧ Ex w' w'') := fun w' a' c' lo' h ht => by
    have := (eqType_both (dep f + 1)).2 f f a4 a' c4 c' _ lo' w' (by omega) (by have := SM.out; omega) SM.out.2 (T4.out _ ((Ex.new _ _).trans h)) ht
    rw [eqT_refl] at this; exact this
  have H5 : Hid (Ex (w4.alloc (.cells #[.slice a4 (len f) c4] 25)) w5) := hb5
  clear hb5 hb4 hb2 hb3 hx3 hx4
  go_wp2_with fail
  go_region_held3 (fun w' => Ex (w4.alloc (.cells #[.slice a4 (len f) c4] 25)) w' ∧ w'.cell? ⟨w.heap.size, 0, none⟩ = some (.slice a (len f) c) ∧ w'.cell? ⟨w4.heap.size, 0, none⟩ = some (.slice a4 (len f) c4)) ((refine KS.out _ ?_; first | exact H5.out.drew | exact Ex.trans (And.left ‹Ex _ _ ∧ _›) ‹Ex _ _›)) (first | (go_at_call 42; refine (hto.out _ (Ex.trans X4.out (And.left ‹Ex _ _ ∧ _›))).mono ?_; rintro e w6 ⟨a6, c6, rfl, ht6, hb6⟩) | (go_at_call 43; refine (heq.out _ _ _ _ (And.left ‹Ex _ _ ∧ _›) ht6).mono ?_; rintro e w7 ⟨rfl, hb7⟩))
  go_wp2_with fail
  go_ret
  exact ⟨rfl, X1.out.trans (X4.out.trans (And.left ‹Ex _ w7 ∧ _›))⟩

end Go.Proofs.Ytfbnenfnjmhhjaa
