/- The law that a part of a value is of the part's type, walked. -/
import Derived.Test.YtomnekiiccbioaaD7
import Derived.Test.YtomnekiiccbioaaL4
import Derived.Test.YtomnekiiccbioaaL1
import Derived.Test.YtomnekiiccbioaaV8
import Derived.Test.YtomnekiiccbioaaL2
namespace Go.Proofs.Ytomnekiiccbioaa
open Go.RowKit Go.Deep
attribute [local go_sem ↓] Go.wp_at_zero Go.wp_at_succ

theorem vType_mono : ∀ (r : Nat) (n : Int) (f u : F), vType r n f = some u → vType (r + 1) n f = some u
  | 0, n, f, u, h => by simp [vType] at h
  | r + 1, n, f, u, h => by
    by_cases h0 : len f = 0
    · rw [vType_num h0] at h ⊢; exact h
    · by_cases hb : len f = 2 ∧ n = 0
      · rw [vType_two hb.1 hb.2] at h ⊢
        cases ha : vType r (num f 0) (kid f 0) with
        | none => rw [ha] at h; cases h
        | some a =>
          cases hc : vType r (num f 1) (kid f 1) with
          | none => rw [ha, hc] at h; cases h
          | some b => rw [ha, hc] at h; rw [vType_mono r _ _ _ ha, vType_mono r _ _ _ hc]; exact h
      · rw [vType_bad h0 hb] at h; cases h

/-- Each of both parts is there, and of the part's type. -/
theorem valOk_part {t g : F} {n : Int} (h : valOk t n g = true) (h2 : len t ≠ 0) (i : Nat) (hi : i < 2) :
    typeAtR t [(i : Int)] = (kid t i, true) ∧ valAtR n g [(i : Int)] = ((num g i, kid g i), true) ∧ valOk (kid t i) (num g i) (kid g i) = true := by
  unfold valOk at h
  rw [Bool.and_eq_true] at h
  obtain ⟨ht, hv⟩ := h
  cases hx : vType 4 n g with
  | none => rw [hx] at hv; cases hv
  | some v =>
    rw [hx] at hv
    have hv' : eqT t v = true := hv
    have ht2 : len t = 2 := by have := fits_len ht; omega
    obtain ⟨he, hk⟩ := eqT_kid hv'
    have hx' := hx
    obtain h0 | ⟨hg2, hn, a, b, ha, hb⟩ := vType_some (r := 3) hx
    · rw [vType_num (r := 3) h0] at hx'
      split at hx'
      · cases hx'; simp [len] at he; omega
      · cases hx'
    rw [vType_two (r := 3) hg2 hn, ha, hb] at hx'
    cases hx'
    have hf := ht
    rw [fits_two (r := 3) ht2, Bool.and_eq_true] at hf
    have hi' : (0 : Int) ≤ (i : Int) ∧ (i : Int) < len t := by omega
    have hi'' : (0 : Int) ≤ (i : Int) ∧ (i : Int) < len g := by omega
    have e1 : partF t [(i : Int)] = some (kid t i) := by simp only [partF, if_pos hi']; rfl
    have e2 : partV n g [(i : Int)] = some (num g i, kid g i) := by simp only [partV, if_pos hi'']; rfl
    refine ⟨by simp [typeAtR, ht, e1], by simp [valAtR, hx, e2], ?_⟩
    have : i = 0 ∨ i = 1 := by omega
    rcases this with rfl | rfl
    · have hk0 := hk 0 (by omega)
      rw [kid_two0] at hk0
      simp [valOk, fits_mono 3 _ hf.1, vType_mono 3 _ _ _ ha, ofType, hk0]
    · have hk1 := hk 1 (by omega)
      rw [kid_two1] at hk1
      simp [valOk, fits_mono 3 _ hf.2, vType_mono 3 _ _ _ hb, ofType, hk1]

set_option maxRecDepth 100000 in
set_option maxHeartbeats 4000000 in
theorem lawValParts (n cc m mc : Nat) (ca ma : Option Addr) (w : World) (hn : n ≤ cc) (hc : cc ≤ 9223372036854775807) (hB : By w n ca) :
    Calls Try.prog 7 #[.slice ca n cc, .slice ma m mc] w fun e w' => e = .returned (.bool true) ∧ Ex w w' := by
  have B : Hid (By w n ca) := hB
  clear hB
  by_cases hbig : 1048576 < n
  · have d1 : decide ((1048576 : Int) < (n : Int)) = true := by simp; omega
    go_enter Try.func7, Try.ntmps7
    go_wp2_with fail
    go_ret
    exact ⟨rfl, Ex.refl _⟩
  have d1 : decide ((1048576 : Int) < (n : Int)) = false := by simp; omega
  by_cases hbig2 : 1048576 < m
  · have d2 : decide ((1048576 : Int) < (m : Int)) = true := by simp; omega
    go_enter Try.func7, Try.ntmps7
    go_wp2_with fail
    go_ret
    exact ⟨rfl, Ex.refl _⟩
  have d2 : decide ((1048576 : Int) < (m : Int)) = false := by simp; omega
  go_enter Try.func7, Try.ntmps7
  go_wp2_with fail
  refine (DrawValOk_any n cc ca _ hn hc B.out).mono ?_
  rintro e w1 ⟨f, a, c, k, g, a', c', rfl, ht, hsm, hv, hsg, hx1⟩
  obtain ⟨W, hW⟩ : ∃ W, W = (w1.alloc (.cells #[.slice a (len f) c] 25)).alloc (.cells #[.int .i64 k, .slice a' (len g) c'] 39) := ⟨_, rfl⟩
  have X1 : Hid (Ex w1 W) := hW ▸ ((Ex.new _ _).alloc _)
  have XW : Hid (Ex w W) := hx1.trans X1.out
  have T : Hid (∀ w', Ex W w' → TA w' 0 f a) := fun _ h => TA_lo (TA_below ht (X1.out.trans h)) (Nat.zero_le _)
  have V : Hid (∀ w', Ex W w' → VA w' 0 g a') := fun _ h => VA_lo (VA_below hv (X1.out.trans h)) (Nat.zero_le _)
  have KS : Hid (∀ w', Ex W w' → (Ex W w' ∧ w'.cell? ⟨w1.heap.size, 0, none⟩ = some (.slice a (len f) c) ∧ w'.cell? ⟨w1.heap.size + 1, 0, none⟩ = some (.int .i64 k) ∧ w'.cell? ⟨w1.heap.size + 1, 1, none⟩ = some (.slice a' (len g) c'))) := fun w' h => ⟨h, h.at (hW ▸ (by simp)), h.at (hW ▸ (by simp)), h.at (hW ▸ (by simp))⟩
  have II : Hid (∀ w', Ex W w' → Calls Try.prog 32 #[.agg #[.slice a (len f) c], .agg #[.int .i64 k, .slice a' (len g) c']] w' fun e w'' => e = .returned (.bool (valOk f k g)) ∧ Ex w' w'') := fun w' h => iValOk_any f k g a' a c' c _ _ w' (V.out _ h) (T.out _ h)
  have IS : Hid (∀ w', Ex W w' → Calls Try.prog 33 #[.agg #[.slice a (len f) c], .agg #[.int .i64 k, .slice a' (len g) c']] w' fun e w'' => e = .returned (.bool (valOk f k g)) ∧ Ex w' w'') := fun w' h => sValOk_any f k g a' a c' c _ _ w' hsg.1 hsg.2 (V.out _ h) (T.out _ h)
  have Q : Hid (valOk f k g = true → len f ≠ 0 → ∀ i : Nat, i < 2 → typeAtR f [(i : Int)] = (kid f i, true) ∧ valAtR k g [(i : Int)] = ((num g i, kid g i), true) ∧ valOk (kid f i) (num g i) (kid g i) = true) := fun h h' i hi => valOk_part h h' i hi
  generalize valOk f k g = z at *
  have zW : w1.heap.size + 1 < W.heap.size := by rw [hW]; simp
  clear ht hv hsm hsg hx1
  go_wp2_with fail
  rw [← hW]
  clear hW
  refine (II.out _ (Ex.refl _)).mono ?_
  rintro e w3 ⟨rfl, hb3⟩
  obtain ⟨_, q1, q2, q3⟩ := KS.out w3 hb3
  go_wp2_with fail
  refine (IS.out _ hb3).mono ?_
  rintro e w4 ⟨rfl, hb4⟩
  have x4 := hb3.trans hb4
  clear q1 q2 q3
  obtain ⟨_, q1, q2, q3⟩ := KS.out w4 x4
  cases z
  · go_wp2_with fail
    refine (IS.out _ x4).mono ?_
    rintro e w5 ⟨rfl, hb5⟩
    go_wp2_with fail
    go_ret
    exact ⟨rfl, XW.out.trans (x4.trans hb5)⟩
  by_cases h0 : len f = 0
  · have h0' : ((len f : Int) == 0) = true := by simp [h0]
    clear h0
    go_wp2_with fail
    refine (IS.out _ x4).mono ?_
    rintro e w5 ⟨rfl, hb5⟩
    go_wp2_with fail
    go_ret
    exact ⟨rfl, XW.out.trans (x4.trans hb5)⟩
  have h0' : ((len f : Int) == 0) = false := by simp [h0]
  obtain ⟨i, hi⟩ : ∃ i : Nat, i = m % 2 := ⟨_, rfl⟩
  have hi2 : i < 2 := by omega
  obtain ⟨r1, r2, r3⟩ := Q.out rfl h0 i hi2
  have hmi : (m : Int) % 2 = (i : Int) := by omega
  obtain ⟨W5, hW5⟩ : ∃ W5, W5 = w4.alloc (.cells #[.int .i64 (i : Int)] 3) := ⟨_, rfl⟩
  have x5 : Ex W W5 := hW5 ▸ (x4.trans (Ex.new _ _))
  have P5 : Hid (∀ w', Ex W5 w' → PA w' 0 [(i : Int)] (some ⟨w4.heap.size, 0, none⟩)) := fun w' h => Or.inr ⟨_, 0, rfl, Nat.zero_le _, fun j hj => by
    have : j = 0 := by simpa using hj
    subst this
    exact h.at (hW5 ▸ World.cell?_alloc_new _ _ _ _)⟩
  have IT : Hid (∀ w', Ex W5 w' → Calls Try.prog 23 #[.agg #[.slice a (len f) c], .slice (some ⟨w4.heap.size, 0, none⟩) 1 1] w' fun e w'' => ∃ a' cap', e = .returned (.tuple #[.agg #[.slice a' (len (kid f i)) cap'], .bool true]) ∧ TA w'' w'.heap.size (kid f i) a' ∧ Ex w' w'') := fun w' h => by
    have := iTypeAt_any f [(i : Int)] a c (some ⟨w4.heap.size, 0, none⟩) 1 0 w' (by simp) (T.out _ (x5.trans h)) (P5.out _ h)
    rw [r1] at this; exact this
  have IV : Hid (∀ w', Ex W5 w' → Calls Try.prog 34 #[.agg #[.int .i64 k, .slice a' (len g) c'], .slice (some ⟨w4.heap.size, 0, none⟩) 1 1] w' fun e w'' => ∃ a' cap', e = .returned (.tuple #[.agg #[.int .i64 (num g i), .slice a' (len (kid g i)) cap'], .bool true]) ∧ VA w'' w'.heap.size (kid g i) a' ∧ Ex w' w'') := fun w' h => by
    have := iValAt_any k g [(i : Int)] a' c' (some ⟨w4.heap.size, 0, none⟩) 1 0 w' (by simp) (V.out _ (x5.trans h)) (P5.out _ h)
    rw [r2] at this; exact this
  have IK : Hid (∀ w' a1 c1 a2 c2, TA w' 0 (kid f i) a1 → VA w' 0 (kid g i) a2 → Calls Try.prog 32 #[.agg #[.slice a1 (len (kid f i)) c1], .agg #[.int .i64 (num g i), .slice a2 (len (kid g i)) c2]] w' fun e w'' => e = .returned (.bool true) ∧ Ex w' w'') := fun w' a1 c1 a2 c2 h1 h2 => by
    have := iValOk_any (kid f i) (num g i) (kid g i) a2 a1 c2 c1 0 0 w' h2 h1
    rw [r3] at this; exact this
  have H0 : Hid (¬ len f = 0) := h0
  have X5 : Hid (Ex W W5) := x5
  have z4 : w1.heap.size + 1 < w4.heap.size := by have := x4.size; omega
  have z4' : w1.heap.size < w4.heap.size := by omega
  have hm2 : (m : Int).tmod 2 = (i : Int) := by rw [Int.tmod_eq_emod_of_nonneg (by omega)]; exact hmi
  clear r1 r2 r3 h0 hi x5 Q
  go_wp2_with fail
  rw [← hW5]
  clear hW5
  refine (IT.out _ (Ex.refl _)).mono ?_
  rintro e w6 ⟨a6, c6, rfl, ht6, hb6⟩
  have x6 : Ex W w6 := X5.out.trans hb6
  clear q1 q2 q3
  obtain ⟨_, q1, q2, q3⟩ := KS.out w6 x6
  have z6 : w1.heap.size + 1 < w6.heap.size := World.block_lt_of_cell? _ _ q2
  have z6' : w1.heap.size < w6.heap.size := by omega
  go_wp2_with fail
  refine (IV.out _ (hb6.trans (Ex.new _ _))).mono ?_
  rintro e w7 ⟨a7, c7, rfl, hv7, hb7⟩
  have q5 : w7.cell? ⟨w6.heap.size, 0, none⟩ = some (.slice a6 (len (kid f i)) c6) := hb7.at (World.cell?_alloc_new _ _ _ _)
  have z7 : w6.heap.size < w7.heap.size := World.block_lt_of_cell? _ _ q5
  have T7 : Hid (TA (w7.alloc (.cells #[.int .i64 (num g i), .slice a7 (len (kid g i)) c7] 39)) 0 (kid f i) a6) := TA_lo (TA_below ht6 ((Ex.new _ _).trans (hb7.trans (Ex.new _ _)))) (Nat.zero_le _)
  have V7 : Hid (VA (w7.alloc (.cells #[.int .i64 (num g i), .slice a7 (len (kid g i)) c7] 39)) 0 (kid g i) a7) := VA_lo (VA_below hv7 (Ex.new _ _)) (Nat.zero_le _)
  clear ht6 hv7
  go_wp2_with fail
  refine (IK.out _ a6 c6 a7 c7 T7.out V7.out).mono ?_
  rintro e w8 ⟨rfl, hb8⟩
  go_wp2_with fail
  go_ret
  exact ⟨rfl, XW.out.trans (x6.trans ((Ex.new _ _).trans (hb7.trans ((Ex.new _ _).trans hb8))))⟩

end Go.Proofs.Ytomnekiiccbioaa
