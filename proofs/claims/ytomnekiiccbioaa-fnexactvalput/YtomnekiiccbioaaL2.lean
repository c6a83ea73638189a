/- The law on texts of types, walked. -/
import Derived.Test.YtomnekiiccbioaaW6
namespace Go.Proofs.Ytomnekiiccbioaa
open Go.RowKit Go.Deep

theorem data_app (a b : ByteArray) : (a ++ b).data.toList = a.data.toList ++ b.data.toList := by
  rw [ByteArray.data_append]; simp

def sayL (r : Nat) (f : F) : List UInt8 := (say r f).data.toList
theorem sayL_nil {r : Nat} {f : F} (h : len f = 0) : sayL (r + 1) f = [105] := by simp [sayL, say, h]
theorem sayL_two {r : Nat} {f : F} (h : len f = 2) : sayL (r + 1) f = 40 :: (sayL r (kid f 0) ++ (44 :: (sayL r (kid f 1) ++ [41]))) := by
  simp [sayL, say, h]

theorem eqT_pair {f g : F} (h : len f = 2) (h' : len g = 2) (h0 : eqT (kid f 0) (kid g 0) = true) (h1 : eqT (kid f 1) (kid g 1) = true) : eqT f g = true :=
  eqT_good f g (by omega) fun i hi => by
    have : i = 0 ∨ i = 1 := by omega
    rcases this with rfl | rfl
    · exact h0
    · exact h1

theorem eqT_nil {f g : F} (h : len f = 0) (h' : len g = 0) : eqT f g = true := eqT_good f g (by omega) fun i hi => by omega

theorem say_inj : ∀ (r s : Nat) (f g : F) (X Y : List UInt8), fits r f = true → fits s g = true → sayL r f ++ X = sayL s g ++ Y → eqT f g = true ∧ X = Y
  | 0, _, f, g, X, Y, h, _, _ => by simp [fits] at h
  | r + 1, 0, f, g, X, Y, _, h, _ => by simp [fits] at h
  | r + 1, s + 1, f, g, X, Y, hf, hg, e => by
    rcases fits_len hf with h0 | h2 <;> rcases fits_len hg with k0 | k2
    · rw [sayL_nil h0, sayL_nil k0] at e
      exact ⟨eqT_nil h0 k0, by simpa using e⟩
    · rw [sayL_nil h0, sayL_two k2] at e; simp at e
    · rw [sayL_two h2, sayL_nil k0] at e; simp at e
    · rw [sayL_two h2, sayL_two k2] at e
      simp only [List.cons_append, List.append_assoc, List.cons.injEq, true_and, List.nil_append] at e
      rw [fits_two h2, Bool.and_eq_true] at hf
      rw [fits_two k2, Bool.and_eq_true] at hg
      obtain ⟨e0, e1⟩ := say_inj r s (kid f 0) (kid g 0) _ _ hf.1 hg.1 e
      simp only [List.cons.injEq, true_and] at e1
      obtain ⟨e2, e3⟩ := say_inj r s (kid f 1) (kid g 1) _ _ hf.2 hg.2 e1
      simp only [List.cons.injEq, true_and] at e3
      exact ⟨eqT_pair h2 k2 e0 e2, e3⟩

theorem eqT_kid {f g : F} (h : eqT f g = true) : len f = len g ∧ ∀ i, i < len f → eqT (kid f i) (kid g i) = true := by
  refine ⟨?_, fun i hi => ?_⟩
  · by_cases hl : len f = len g
    · exact hl
    · rw [eqT_len _ _ hl] at h; cases h
  · cases hk : eqT (kid f i) (kid g i)
    · rw [eqT_bad _ _ i hi hk] at h; cases h
    · rfl

theorem say_eq : ∀ (r : Nat) (f g : F), fits r f = true → eqT f g = true → say r f = say r g
  | 0, _, _, h, _ => by simp [fits] at h
  | r + 1, f, g, hf, e => by
    obtain ⟨hl, hk⟩ := eqT_kid e
    rcases fits_len hf with h0 | h2
    · simp [say, h0, ← hl]
    · rw [fits_two h2, Bool.and_eq_true] at hf
      have e0 := say_eq r _ _ hf.1 (hk 0 (by omega))
      have e1 := say_eq r _ _ hf.2 (hk 1 (by omega))
      simp [say, ← hl, h2, e0, e1]

theorem say_iff {r : Nat} {f g : F} (hf : fits r f = true) (hg : fits r g = true) : say r f = say r g ↔ eqT f g = true := by
  refine ⟨fun h => ?_, say_eq r f g hf⟩
  exact (say_inj r r f g [] [] hf hg (by simp [sayL, h])).1

theorem say_pos : ∀ {r : Nat} {f : F}, fits r f = true → 0 < (say r f).size
  | 0, f, h => by simp [fits] at h
  | r + 1, f, _ => by
    simp only [say]
    split
    · simp [ByteArray.size]
    · simp only [ByteArray.size_append]
      have e1 : (⟨#[40]⟩ : ByteArray).size = 1 := rfl
      omega

theorem toList_data (a : ByteArray) : a.toList = a.data.toList := ByteArray.toList_eq a
theorem eqS (a b : ByteArray) : (a.toList == b.toList) = decide (a = b) := by
  rw [toList_data, toList_data, Bool.eq_iff_iff]
  simp only [beq_iff_eq, decide_eq_true_eq]
  exact ⟨fun h => Go.WideShapes.bytes_inj h, fun h => by rw [h]⟩

set_option maxRecDepth 100000 in
set_option maxHeartbeats 2000000 in
theorem lawTypeText (n cc m mc : Nat) (ca ma : Option Addr) (w : World) (hn : n ≤ cc) (hc : cc ≤ 9223372036854775807) (hB : By w n ca) (hm : m ≤ mc) (hmc : mc ≤ 9223372036854775807) (hM : By w m ma) :
    Calls Try.prog 5 #[.slice ca n cc, .slice ma m mc] w fun e w' => e = .returned (.bool true) ∧ Ex w w' := by
  have B : Hid (By w n ca) := hB
  have M : Hid (By w m ma) := hM
  clear hB hM
  by_cases hbig : 1048576 < n
  · have d1 : decide ((1048576 : Int) < (n : Int)) = true := by simp; omega
    go_enter Try.func5, Try.ntmps5
    go_wp2_with fail
    go_ret
    exact ⟨rfl, Ex.refl _⟩
  have d1 : decide ((1048576 : Int) < (n : Int)) = false := by simp; omega
  by_cases hbig2 : 1048576 < m
  · have d2 : decide ((1048576 : Int) < (m : Int)) = true := by simp; omega
    go_enter Try.func5, Try.ntmps5
    go_wp2_with fail
    go_ret
    exact ⟨rfl, Ex.refl _⟩
  have d2 : decide ((1048576 : Int) < (m : Int)) = false := by simp; omega
  go_enter Try.func5, Try.ntmps5
  go_wp2_with fail
  refine (DrawTypeText_any n cc ca _ hn hc B.out).mono ?_
  rintro e w1 ⟨f, a, c, rfl, ht, hsm, hx1⟩
  have T : Hid (TA w1 w.heap.size f a) := ht
  have SM : Hid (len f ≤ 1000000000 ∧ Sm f) := hsm
  clear ht hsm
  go_wp2_with fail
  refine (DrawTypeText_any m mc ma _ hm hmc (M.out.ex (hx1.trans (Ex.new _ _)))).mono ?_
  rintro e w2 ⟨g, a', c', rfl, ht', hsm', hx2⟩
  have hx2' : Ex w1 w2 := (Ex.new _ _).trans hx2
  have cf : w2.cell? ⟨w1.heap.size, 0, none⟩ = some (.slice a (len f) c) := Ex.at hx2 (World.cell?_alloc_new _ _ _ _)
  have lt1 : w1.heap.size < w2.heap.size := by have := hx2.size; rw [World.size_alloc] at this; omega
  -- the world behind the second store
  obtain ⟨W, hW⟩ : ∃ W, W = w2.alloc (.cells #[.slice a' (len g) c'] 25) := ⟨_, rfl⟩
  have T2 : Hid (∀ w', Ex W w' → TA w' w.heap.size f a) := fun w' h => TA_below T.out (hx2'.trans ((Ex.new _ _).trans (hW ▸ h)))
  have G2 : Hid (∀ w', Ex W w' → TA w' (w1.alloc (.cells #[.slice a (len f) c] 25)).heap.size g a') := fun w' h => TA_below ht' ((Ex.new _ _).trans (hW ▸ h))
  have CF : Hid (∀ w', Ex W w' → w'.cell? ⟨w1.heap.size, 0, none⟩ = some (.slice a (len f) c)) := fun w' h => h.at (hW ▸ (Ex.new _ _).at cf)
  have CG : Hid (∀ w', Ex W w' → w'.cell? ⟨w2.heap.size, 0, none⟩ = some (.slice a' (len g) c')) := fun w' h => h.at (hW ▸ World.cell?_alloc_new _ _ _ _)
  have XW : Hid (Ex w W) := hW ▸ (hx1.trans (hx2'.trans (Ex.new _ _)))
  clear ht' hsm'
  go_wp2_with fail
  rw [← hW]
  clear hW hx2 hx2' cf hx1
  refine (iTypeText_any f a c w.heap.size W (T2.out W (Ex.refl _))).mono ?_
  rintro e w3 ⟨rfl, hb3⟩
  have q1 := CF.out w3 hb3
  have q2 := CG.out w3 hb3
  go_wp2_with fail
  refine (iTypeText_any g a' c' _ w3 (G2.out w3 hb3)).mono ?_
  rintro e w4 ⟨rfl, hb4⟩
  have hx4 : Ex W w4 := hb3.trans hb4
  clear q1 q2
  have q1 := CF.out w4 hx4
  have q2 := CG.out w4 hx4
  go_wp2_with fail
  refine (sTypeText_any f a c _ w4 (T2.out w4 hx4)).mono ?_
  rintro e w5 ⟨rfl, hb5⟩
  have hx5 : Ex W w5 := hx4.trans hb5
  clear q1 q2
  have q1 := CF.out w5 hx5
  have q2 := CG.out w5 hx5
  go_wp2_with fail
  refine (sTypeText_any g a' c' _ w5 (G2.out w5 hx5)).mono ?_
  rintro e w6 ⟨rfl, hb6⟩
  have hx6 : Ex W w6 := hx5.trans hb6
  clear q1 q2
  have q1 := CF.out w6 hx6
  have q2 := CG.out w6 hx6
  go_wp2_with fail
  refine (sTypeOk_any f a c _ w6 (T2.out w6 hx6)).mono ?_
  rintro e w7 ⟨rfl, hb7⟩
  have hx7 : Ex W w7 := hx6.trans hb7
  clear q1 q2
  have q1 := CF.out w7 hx7
  have q2 := CG.out w7 hx7
  have E1 : Hid (∀ W', Ex W W' → Calls Try.prog 30 #[.agg #[.slice a (len f) c]] W' fun e w' => e = .returned (.string (textT f)) ∧ Ex W' w') := fun W' h => sTypeText_any f a c _ W' (T2.out W' h)
  have E2 : Hid (∀ W', Ex W W' → Calls Try.prog 30 #[.agg #[.slice a' (len g) c']] W' fun e w' => e = .returned (.string (textT g)) ∧ Ex W' w') := fun W' h => sTypeText_any g a' c' _ W' (G2.out W' h)
  cases hf : fits 4 f
  · go_wp2_with fail
    refine (E1.out _ hx7).mono ?_
    rintro e w8 ⟨rfl, hb8⟩
    have hx8 : Ex W w8 := hx7.trans hb8
    clear q1 q2
    have q1 := CF.out w8 hx8
    have q2 := CG.out w8 hx8
    go_wp2_with fail
    refine (E2.out _ hx8).mono ?_
    rintro e w9 ⟨rfl, hb9⟩
    go_wp2_with fail
    go_ret
    exact ⟨rfl, XW.out.trans (hx8.trans hb9)⟩
  have HF : Hid (fits 4 f = true) := hf
  clear hf
  go_wp2_with fail
  refine (sTypeOk_any g a' c' _ w7 (G2.out w7 hx7)).mono ?_
  rintro e w8 ⟨rfl, hb8⟩
  have hx8 : Ex W w8 := hx7.trans hb8
  clear q1 q2
  have q1 := CF.out w8 hx8
  have q2 := CG.out w8 hx8
  cases hg : fits 4 g
  · go_wp2_with fail
    refine (E1.out _ hx8).mono ?_
    rintro e w9 ⟨rfl, hb9⟩
    have hx9 : Ex W w9 := hx8.trans hb9
    clear q1 q2
    have q1 := CF.out w9 hx9
    have q2 := CG.out w9 hx9
    go_wp2_with fail
    refine (E2.out _ hx9).mono ?_
    rintro e w10 ⟨rfl, hb10⟩
    go_wp2_with fail
    go_ret
    exact ⟨rfl, XW.out.trans (hx9.trans hb10)⟩
  have HG : Hid (fits 4 g = true) := hg
  clear hg
  go_wp2_with fail
  refine (lhType_any (dep f + 1) f g a a' c c' _ _ w8 (by omega) SM.out.1 SM.out.2 (T2.out w8 hx8) (G2.out w8 hx8)).mono ?_
  rintro e w9 ⟨rfl, hb9⟩
  have hx9 : Ex W w9 := hx8.trans hb9
  have hq : ((textT f).toList == (textT g).toList) = eqT f g := by
    rw [eqS]
    have h1 : textT f = say 4 f := by simp [textT, HF.out]
    have h2 : textT g = say 4 g := by simp [textT, HG.out]
    rw [h1, h2, Bool.eq_iff_iff, decide_eq_true_eq]
    exact say_iff HF.out HG.out
  have hp : 0 < (textT f).size := by
    have h1 : textT f = say 4 f := by simp [textT, HF.out]
    rw [h1]; exact say_pos HF.out
  go_wp2_with fail
  go_ret
  exact ⟨ret_b (by simp), XW.out.trans hx9⟩

end Go.Proofs.Ytomnekiiccbioaa
