/- The exact law on parts of types, walked. -/
import Derived.Test.YtfbnenfnjmhhjaaL4
import Derived.Test.YtfbnenfnjmhhjaaE3
namespace Go.Proofs.Ytfbnenfnjmhhjaa
open Go.RowKit Go.Deep
attribute [local go_sem ↓] Go.wp_at_zero Go.wp_at_succ

set_option maxRecDepth 100000 in
set_option maxHeartbeats 4000000 in
theorem lawExactTypeAt (f : F) (a : Option Addr) (c : Nat) (xs : List Int) (pa : Option Addr) (pc : Nat) (w : World) (hl : len f ≤ 9223372036854775807) (hlm : Lm f) (hT : TA w 0 f a) (hP : PA w 0 xs pa) :
    Calls Try.prog 16 #[.agg #[.slice a (len f) c], .slice pa xs.length pc] w fun e w' => e = .returned (.bool true) ∧ Ex w w' := by
  have T : Hid (∀ w', Ex w w' → TA w' 0 f a) := fun _ h => TA_below hT h
  have P : Hid (∀ w', Ex w w' → PA w' 0 xs pa) := fun _ h => PA_below hP h
  clear hT hP
  by_cases hbig : 1048576 < xs.length
  · have d1 : decide ((1048576 : Int) < (xs.length : Int)) = true := by simp; omega
    go_enter Try.func16, Try.ntmps16
    go_wp2_with fail
    go_ret
    exact ⟨rfl, Ex.new _ _⟩
  have d1 : decide ((1048576 : Int) < (xs.length : Int)) = false := by simp; omega
  go_enter Try.func16, Try.ntmps16
  go_wp2_with fail
  refine ((szType_both (dep f + 1)).2 f a c 0 1048576 _ (by omega) hl hlm (by omega) (by omega) (T.out _ (Ex.new _ _))).mono ?_
  rintro e w1 ⟨x, rfl, hx0, hx1, hsm, hb1⟩
  by_cases hx : x < 0
  · go_wp2_with fail
    go_ret
    exact ⟨rfl, (Ex.new _ _).trans hb1⟩
  have SM : Hid (len f ≤ 1048576 ∧ Sm f) := hsm (by omega)
  have B : Hid (∀ w', Ex w1 w' → w'.cell? ⟨w.heap.size, 0, none⟩ = some (.slice a (len f) c)) := fun _ h => h.at (hb1.at (World.cell?_alloc_new _ _ _ _))
  have X1 : Hid (Ex w w1) := (Ex.new _ _).trans hb1
  have q1 := B.out w1 (Ex.refl _)
  have hto : Hid (∀ w', Ex w1 w' → Calls Try.prog 42 #[.agg #[.slice a (len f) c]] w' fun e w'' => ∃ a' c', e = .returned (.agg #[.slice a' (len f) c']) ∧ TA w'' w'.heap.size f a' ∧ Ex w' w'') := fun w' h =>
    (toType_both (dep f + 1)).2 f a c 0 w' (by omega) (by have := SM.out; omega) SM.out.2 (T.out _ (X1.out.trans h))
  have hti : Hid (∀ w', Ex w1 w' → Calls Try.prog 44 #[.slice pa xs.length pc] w' fun e w'' => e = .returned (.slice (some ⟨w'.heap.size, 0, none⟩) xs.length xs.length) ∧ IB w'' w'.heap.size xs ∧ Ex w' w'') := fun w' h =>
    toIntS_any xs pa pc 0 w' (by omega) (P.out _ (X1.out.trans h))
  clear hsm hb1
  go_wp2_with fail
  refine (hto.out w1 (Ex.refl _)).mono ?_
  rintro e w2 ⟨a2, c2, rfl, ht2, hb2⟩
  go_wp2_with fail
  refine (hti.out w2 hb2).mono ?_
  rintro e w3 ⟨rfl, hi3, hb3⟩
  go_wp2_with fail
  refine (sTypeAt_any f xs a2 c2 _ xs.length w1.heap.size w3 (by omega) (TA_below ht2 hb3) (hi3.pa (Nat.zero_le _))).mono ?_
  rintro e w4 ⟨a4, c4, rfl, ht4, hb4⟩
  have SG : Hid (len (typeAtR f xs).1 ≤ 1000000000 ∧ Sm (typeAtR f xs).1 ∧ dep (typeAtR f xs).1 ≤ 4) := typeAt_sm xs
  have IT : Hid (∀ w' a' c' b', TA w' 0 f a' → IB w' b' xs → Calls Try.prog 23 #[.agg #[.slice a' (len f) c'], .slice (some ⟨b', 0, none⟩) xs.length xs.length] w' fun e w'' => ∃ a' cap', e = .returned (.tuple #[.agg #[.slice a' (len (typeAtR f xs).1) cap'], .bool (typeAtR f xs).2]) ∧ TA w'' w'.heap.size (typeAtR f xs).1 a' ∧ Ex w' w'') := fun w' a' c' b' h hi => iTypeAt_any f xs a' c' _ xs.length 0 w' (by omega) h (hi.pa (Nat.zero_le _))
  have X4 : Hid (Ex w1 w4) := hb2.trans (hb3.trans hb4)
  generalize typeAtR f xs = tr at *
  obtain ⟨g, ok⟩ := tr
  simp only at ht4
  have W0 : Hid (∀ w', Ex w4 w' → TA w' 0 g a4) := fun w' h => TA_below (TA_lo ht4 (Nat.zero_le _)) h
  have q4 := B.out w4 X4.out
  clear q1 ht2 hi3 hb2 hb3 hb4 ht4
  have z4 : w.heap.size < w4.heap.size := World.block_lt_of_cell? _ _ q4
  go_wp2_with fail
  refine (hto.out _ (X4.out.trans (Ex.new _ _))).mono ?_
  rintro e w5 ⟨a5, c5, rfl, ht5, hb5⟩
  have z5 : w4.heap.size < w5.heap.size := by have := hb5.size; rw [World.size_alloc] at this; omega
  have C6 : Hid (∀ w', Ex w5 w' → w'.cell? ⟨w4.heap.size, 0, none⟩ = some (.slice a4 (len g) c4)) := fun _ h => h.at (hb5.at (World.cell?_alloc_new _ _ _ _))
  have X5 : Hid (Ex w4 w5) := (Ex.new _ _).trans hb5
  have X0 : Hid (∀ w', Ex w5 w' → TA w' 0 f a5) := fun w' h => TA_below (TA_lo ht5 (Nat.zero_le _)) h
  clear ht5 hb5 q4
  go_wp2_with fail
  refine (hti.out _ (X4.out.trans (X5.out.trans (Ex.new _ _)))).mono ?_
  rintro e w6 ⟨rfl, hi6, hb6⟩
  rw [World.size_alloc] at hi6
  have I6 : Hid (IB w6 (w5.heap.size + 1) xs) := hi6
  have X6 : Hid (Ex (w5.alloc (.cells #[.slice a5 (len f) c5] 25)) w6) := hb6
  have C8 : Hid (∀ w', Ex w6 w' → w'.cell? ⟨w5.heap.size, 0, none⟩ = some (.slice a5 (len f) c5)) := fun _ h => h.at (hb6.at (World.cell?_alloc_new _ _ _ _))
  have z6 : w5.heap.size + 1 < w6.heap.size := hi6.lt
  have q8 := C8.out w6 (Ex.refl _)
  clear hi6 hb6
  simp only [World.size_alloc]
  go_wp2_with fail
  refine (IT.out w6 a5 c5 _ (X0.out _ ((Ex.new _ _).trans X6.out)) I6.out).mono ?_
  rintro e w7 ⟨a7, c7, rfl, ht7, hb7⟩
  have EG : Hid (∀ w' a' c' a'' c'', TA w' 0 g a' → TA w' 0 g a'' → Calls Try.prog 43 #[.agg #[.slice a' (len g) c'], .agg #[.slice a'' (len g) c'']] w' fun e w'' => e = .returned (.bool true) ∧ Ex w' w'') := fun w' a' c' a'' c'' h h' => by
    have := (eqType_both (dep g + 1)).2 g g a' a'' c' c'' 0 0 w' (by omega) SG.out.1 SG.out.2.1 h h'
    rw [eqT_refl] at this; exact this
  have EF : Hid (∀ w' a' c' a'' c'' lo', TA w' 0 f a' → TA w' lo' f a'' → Calls Try.prog 43 #[.agg #[.slice a' (len f) c'], .agg #[.slice a'' (len f) c'']] w' fun e w'' => e = .returned (.bool true) ∧ Ex w' w'') := fun w' a' c' a'' c'' lo' h h' => by
    have := (eqType_both (dep f + 1)).2 f f a' a'' c' c'' 0 lo' w' (by omega) (by have := SM.out; omega) SM.out.2 h h'
    rw [eqT_refl] at this; exact this
  have XC : Hid (Ex w5 (w7.alloc (.cells #[.slice a7 (len g) c7] 25))) := (Ex.new _ _).trans (X6.out.trans (hb7.trans (Ex.new _ _)))
  have XC6 : Hid (Ex w6 (w7.alloc (.cells #[.slice a7 (len g) c7] 25))) := hb7.trans (Ex.new _ _)
  have X15 : Hid (Ex w1 w5) := X4.out.trans X5.out
  have G7 : Hid (∀ w', Ex (w7.alloc (.cells #[.slice a7 (len g) c7] 25)) w' → TA w' w6.heap.size g a7) := fun _ h => TA_below ht7 ((Ex.new _ _).trans h)
  have C10 : Hid (∀ w', Ex (w7.alloc (.cells #[.slice a7 (len g) c7] 25)) w' → w'.cell? ⟨w7.heap.size, 0, none⟩ = some (.slice a7 (len g) c7)) := fun _ h => h.at (World.cell?_alloc_new _ _ _ _)
  have q6 := C6.out w7 ((Ex.new _ _).trans (X6.out.trans hb7))
  have z7 : w6.heap.size ≤ w7.heap.size := hb7.size
  have z8 : w4.heap.size < w7.heap.size := by omega
  clear ht7 hb7 q8
  go_wp2_with fail
  refine (EG.out _ a7 c7 a4 c4 (TA_lo (G7.out _ (Ex.refl _)) (Nat.zero_le _)) (W0.out _ (X5.out.trans XC.out))).mono ?_
  rintro e w8 ⟨rfl, hb8⟩
  have H8 : Hid (Ex (w7.alloc (.cells #[.slice a7 (len g) c7] 25)) w8) := hb8
  have KS : Hid (∀ w', Ex (w7.alloc (.cells #[.slice a7 (len g) c7] 25)) w' → (Ex (w7.alloc (.cells #[.slice a7 (len g) c7] 25)) w' ∧ w'.cell? ⟨w.heap.size, 0, none⟩ = some (.slice a (len f) c) ∧ w'.cell? ⟨w5.heap.size, 0, none⟩ = some (.slice a5 (len f) c5))) := fun w' h => ⟨h, B.out w' (X15.out.trans (XC.out.trans h)), C8.out w' (XC6.out.trans h)⟩
  have q8 := C8.out w8 (XC6.out.trans hb8)
  have q2 := B.out w8 (X15.out.trans (XC.out.trans hb8))
  have HTO : Hid (∀ w', Ex (w7.alloc (.cells #[.slice a7 (len g) c7] 25)) w' → Calls Try.prog 42 #[.agg #[.slice a (len f) c]] w' fun e w'' => ∃ a' c', e = .returned (.agg #[.slice a' (len f) c']) ∧ TA w'' w'.heap.size f a' ∧ Ex w' w'') := fun w' h => hto.out w' (X15.out.trans (XC.out.trans h))
  have HEF : Hid (∀ w' a' c' lo', Ex (w7.alloc (.cells #[.slice a7 (len g) c7] 25)) w' → TA w' lo' f a' → Calls Try.prog 43 #[.agg #[.slice a5 (len f) c5], .agg #[.slice a' (len f) c']] w' fun e w'' => e = .returned (.bool true) ∧ Ex w' w'') := fun w' a' c' lo' h ht => EF.out w' a5 c5 a' c' lo' (X0.out _ (XC.out.trans h)) ht
  clear hb8 q6
  go_wp2_with fail
  go_region_held3 (fun w' => Ex (w7.alloc (.cells #[.slice a7 (len g) c7] 25)) w' ∧ w'.cell? ⟨w.heap.size, 0, none⟩ = some (.slice a (len f) c) ∧ w'.cell? ⟨w5.heap.size, 0, none⟩ = some (.slice a5 (len f) c5)) ((refine KS.out _ ?_; first | exact H8.out.drew | exact Ex.trans (And.left ‹Ex _ _ ∧ _›) ‹Ex _ _›)) (first | (go_at_call 42; refine (HTO.out _ (And.left ‹Ex _ _ ∧ _›)).mono ?_; rintro e w9 ⟨a9, c9, rfl, ht9, hb9⟩) | (go_at_call 43; refine (HEF.out _ _ _ _ (And.left ‹Ex _ _ ∧ _›) ht9).mono ?_; rintro e w10 ⟨rfl, hb10⟩))
  have H10 : Hid (Ex (w7.alloc (.cells #[.slice a7 (len g) c7] 25)) w10) := And.left ‹Ex _ w10 ∧ _›
  go_wp2_with fail
  refine (hti.out _ (X15.out.trans (XC.out.trans H10.out))).mono ?_
  rintro e w11 ⟨rfl, hi11, hb11⟩
  have H11 : Hid (Ex (w7.alloc (.cells #[.slice a7 (len g) c7] 25)) w11) := H10.out.trans hb11
  have I11 : Hid (IB w11 w10.heap.size xs) := hi11
  clear hi11 hb11
  go_wp2_with fail
  refine (eqIntS_same xs _ _ _ _ w11 (by omega) ((I6.out.ex (XC6.out.trans H11.out)).pa (Nat.zero_le _)) (I11.out.pa (Nat.zero_le _))).mono ?_
  rintro e w12 ⟨rfl, hb12⟩
  have H12 : Hid (Ex (w7.alloc (.cells #[.slice a7 (len g) c7] 25)) w12) := H11.out.trans hb12
  have q12 := C8.out w12 (XC6.out.trans H12.out)
  clear hb12
  go_wp2_with fail
  refine (markType_any f a5 c5 0 1 w12 (by have := SM.out; omega) SM.out.2 (X0.out _ (XC.out.trans H12.out))).mono ?_
  rintro e w13 ⟨rfl, hb13⟩
  have H13 : Hid (Ex (w7.alloc (.cells #[.slice a7 (len g) c7] 25)) w13) := H12.out.trans hb13
  have MI : Hid (Calls Try.prog 47 #[.slice (some ⟨w5.heap.size + 1, 0, none⟩) xs.length xs.length, .int .i64 1] w13 fun e w' => ∃ y : Int, e = .returned (.int .i64 y) ∧ 0 ≤ y ∧ Fr (w5.heap.size + 1) w13 w') := by
    obtain ⟨cur, h1, h2, _⟩ := I6.out.ex (XC6.out.trans H13.out)
    exact (markIntS_any xs.length xs.length (w5.heap.size + 1) 1 cur w13 (by omega) (by omega) h1 h2).mono (by rintro e w' ⟨rfl, h⟩; exact ⟨_, rfl, by omega, h⟩)
  clear hb13 q12
  go_wp2_with fail
  refine MI.out.mono ?_
  rintro e w14 ⟨y, rfl, hy0, hf14⟩
  have dy : decide (y < 0) = false := by simp; omega
  have Y5 : Hid (Ex w5 w14) := hf14.to_ex (XC.out.trans H13.out) (by omega)
  have q14 := C6.out w14 Y5.out
  have r14 : w14.cell? ⟨w7.heap.size, 0, none⟩ = some (.slice a7 (len g) c7) := hf14.at (by show w7.heap.size ≠ w5.heap.size + 1; omega) (C10.out _ H13.out)
  have D10 : Hid (∀ w', Ex w14 w' → w'.cell? ⟨w7.heap.size, 0, none⟩ = some (.slice a7 (len g) c7)) := fun _ h => h.at r14
  have G14 : Hid (∀ w', Ex w14 w' → TA w' 0 g a7) := fun w' h => TA_below (TA_lo (TA_kp (G7.out _ H13.out) (hf14.kp (by omega))) (Nat.zero_le _)) h
  have Z1 : Hid (∀ w', Ex w14 w' → Ex w1 w') := fun w' h => X15.out.trans (Y5.out.trans h)
  clear hf14
  go_wp2_with fail
  refine (EG.out w14 a7 c7 a4 c4 (G14.out _ (Ex.refl _)) (W0.out _ (X5.out.trans Y5.out))).mono ?_
  rintro e w15 ⟨rfl, hb15⟩
  have E15 : Hid (Ex w14 w15) := hb15
  have r15 := D10.out w15 hb15
  clear q14 r14 hb15
  go_wp2_with fail
  refine (markType_any g a7 c7 0 1 w15 SG.out.1 SG.out.2.1 (G14.out _ E15.out)).mono ?_
  rintro e w16 ⟨rfl, hb16⟩
  have E16 : Hid (Ex w14 w16) := E15.out.trans hb16
  have r16 := D10.out w16 E16.out
  clear r15 hb16
  go_wp2_with fail
  refine (heldType_any g a7 c7 0 1 w16 SG.out.1 SG.out.2.1 (by omega) (G14.out _ E16.out)).mono ?_
  rintro e w17 ⟨rfl, hb17⟩
  have E17 : Hid (Ex w14 w17) := E16.out.trans hb17
  have r17 := B.out w17 (Z1.out _ E17.out)
  clear r16 hb17
  go_wp2_with fail
  refine (hto.out w17 (Z1.out _ E17.out)).mono ?_
  rintro e w18 ⟨a18, c18, rfl, ht18, hb18⟩
  have E18 : Hid (Ex w14 w18) := E17.out.trans hb18
  have T18 : Hid (TA w18 w17.heap.size f a18) := ht18
  clear r17 hb18 ht18
  go_wp2_with fail
  refine (hti.out w18 (Z1.out _ E18.out)).mono ?_
  rintro e w19 ⟨rfl, hi19, hb19⟩
  have E19 : Hid (Ex w14 w19) := E18.out.trans hb19
  have T19 : Hid (TA w19 0 f a18) := TA_lo (TA_below T18.out hb19) (Nat.zero_le _)
  have I19 : Hid _ := hi19
  clear hb19 hi19
  go_wp2_with fail
  refine (IT.out w19 a18 c18 _ T19.out I19.out).mono ?_
  rintro e w20 ⟨a20, c20, rfl, ht20, hb20⟩
  have E20 : Hid (Ex w14 w20) := E19.out.trans hb20
  have T20 : Hid (TA w20 0 g a20) := TA_lo ht20 (Nat.zero_le _)
  have q20 := C6.out w20 (Y5.out.trans E20.out)
  have z20 : w4.heap.size < w20.heap.size := World.block_lt_of_cell? _ _ q20
  clear hb20 ht20
  go_wp2_with fail
  refine (EG.out _ a20 c20 a4 c4 (TA_below T20.out (Ex.new _ _)) (W0.out _ (X5.out.trans (Y5.out.trans (E20.out.trans (Ex.new _ _)))))).mono ?_
  rintro e w21 ⟨rfl, hb21⟩
  have E21 : Hid (Ex w14 w21) := E20.out.trans ((Ex.new _ _).trans hb21)
  have r21 := D10.out w21 E21.out
  clear hb21 q20 z20
  go_wp2_with fail
  refine (heldType_any g a7 c7 0 1 w21 SG.out.1 SG.out.2.1 (by omega) (G14.out _ E21.out)).mono ?_
  rintro e w22 ⟨rfl, hb22⟩
  go_wp2_with fail
  go_ret
  exact ⟨rfl, X1.out.trans (Z1.out _ (E21.out.trans hb22))⟩

end Go.Proofs.Ytfbnenfnjmhhjaa
