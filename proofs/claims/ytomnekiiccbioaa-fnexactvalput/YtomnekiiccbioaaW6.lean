/- Walks: a type's text. -/
import Derived.Test.YtomnekiiccbioaaW5
namespace Go.Proofs.Ytomnekiiccbioaa
open Go.RowKit Go.Deep
attribute [local go_sem ↓] Go.wp_at_zero Go.wp_at_succ

/-- A type's text. -/
def say : Nat → F → ByteArray
  | 0, _ => ⟨#[]⟩
  | r + 1, f => if len f = 0 then ⟨#[105]⟩ else ⟨#[40]⟩ ++ say r (kid f 0) ++ ⟨#[44]⟩ ++ say r (kid f 1) ++ ⟨#[41]⟩

theorem say_len : ∀ (r : Nat) (f : F), (say r f).size ≤ 4 ^ (r + 1)
  | 0, _ => by simp [say, ByteArray.size]
  | r + 1, f => by
    have h1 := say_len r (kid f 0)
    have h2 := say_len r (kid f 1)
    have h3 : 4 ^ (r + 1 + 1) = 4 * 4 ^ (r + 1) := by rw [Nat.pow_succ]; omega
    have h4 : 4 ≤ 4 ^ (r + 1) := by
      have := Nat.pow_le_pow_right (n := 4) (by omega) (show 1 ≤ r + 1 by omega); simpa using this
    simp only [say]
    split
    · simp [ByteArray.size]; omega
    · simp only [ByteArray.size_append]
      have e1 : (⟨#[40]⟩ : ByteArray).size = 1 := rfl
      have e2 : (⟨#[44]⟩ : ByteArray).size = 1 := rfl
      have e3 : (⟨#[41]⟩ : ByteArray).size = 1 := rfl
      omega

set_option maxHeartbeats 2000000 in
theorem typeWrite_any : ∀ (r : Nat) (f : F) (a : Option Addr) (cap : Nat) (lo : Nat) (w : World), r ≤ 4 → fits r f = true → TA w lo f a →
    Calls Try.prog 64 #[.agg #[.slice a (len f) cap]] w fun e w' => e = .returned (.string (say r f)) ∧ Ex w w'
  | 0, f, a, cap, lo, w, hr, hf, hT => by simp [fits] at hf
  | r + 1, f, a, cap, lo, w, hr, hf, hT => by
    by_cases h0 : len f = 0
    · have h0' : ((len f : Int) == 0) = true := by simp [h0]
      have H0 : Hid (len f = 0) := h0
      clear h0
      go_enter Try.func64, Try.ntmps64
      go_wp2_with fail
      go_ret
      exact ⟨by rw [say, if_pos H0.out]; rfl, Ex.new _ _⟩
    · have h2 : len f = 2 := by have := fits_len hf; omega
      rw [fits_two h2, Bool.and_eq_true] at hf
      obtain ⟨b, o, rfl, hlo, hbs, hk⟩ := TA_at hT (by omega)
      obtain ⟨a0, c0, hc0, ht0⟩ := hk 0 (by omega)
      obtain ⟨a1, c1, hc1, ht1⟩ := hk 1 (by omega)
      rw [Nat.add_zero] at hc0
      have I0 : Hid _ := fun w' h => typeWrite_any r (kid f 0) a0 c0 lo w' (by omega) hf.1 (TA_below ht0 h)
      have I1 : Hid _ := fun w' h => typeWrite_any r (kid f 1) a1 c1 lo w' (by omega) hf.2 (TA_below ht1 h)
      have E0 : Hid (Ex w (w.alloc (.cells #[.slice (some ⟨b, o, none⟩) 2 cap] 25))) := Ex.new _ _
      have KS : Hid (∀ w', Ex (w.alloc (.cells #[.slice (some ⟨b, o, none⟩) 2 cap] 25)) w' → (Ex (w.alloc (.cells #[.slice (some ⟨b, o, none⟩) 2 cap] 25)) w' ∧ w'.cell? ⟨w.heap.size, 0, none⟩ = some (.slice (some ⟨b, o, none⟩) 2 cap) ∧ w'.cell? ⟨b, o, none⟩ = some (.slice a0 (len (kid f 0)) c0) ∧ w'.cell? ⟨b, o + 1, none⟩ = some (.slice a1 (len (kid f 1)) c1))) := fun w' h => ⟨h, Ex.at h (by simp), Ex.at h (Ex.at (Ex.new _ _) hc0), Ex.at h (Ex.at (Ex.new _ _) hc1)⟩
      have s0 := say_len r (kid f 0)
      have s1 := say_len r (kid f 1)
      have s3 : 4 ^ (r + 1) ≤ 4 ^ 5 := Nat.pow_le_pow_right (by omega) (by omega)
      have HS : Hid (say (r + 1) f = ⟨#[40]⟩ ++ say r (kid f 0) ++ ⟨#[44]⟩ ++ say r (kid f 1) ++ ⟨#[41]⟩) := by show _ = _; rw [say, if_neg h0]
      generalize say (r + 1) f = tt at *
      generalize say r (kid f 0) = t0 at *
      generalize say r (kid f 1) = t1 at *
      have n1 : ¬ 9223372036854775807 < 1 + t0.size := by omega
      have n2 : ¬ 9223372036854775807 < 1 + t0.size + 1 := by omega
      have n3 : ¬ 9223372036854775807 < 1 + t0.size + 1 + t1.size := by omega
      have n4 : ¬ 9223372036854775807 < 1 + t0.size + 1 + t1.size + 1 := by omega
      rw [h2]
      clear hk hT ht0 ht1 hf h2 h0 s0 s1 s3
      go_enter Try.func64, Try.ntmps64
      go_wp2_with fail
      go_region_held3 (fun w' => Ex (w.alloc (.cells #[.slice (some ⟨b, o, none⟩) 2 cap] 25)) w' ∧ w'.cell? ⟨w.heap.size, 0, none⟩ = some (.slice (some ⟨b, o, none⟩) 2 cap) ∧ w'.cell? ⟨b, o, none⟩ = some (.slice a0 (len (kid f 0)) c0) ∧ w'.cell? ⟨b, o + 1, none⟩ = some (.slice a1 (len (kid f 1)) c1)) ((refine KS.out _ ?_; first | exact (Ex.refl _).drew | exact (And.left ‹Ex _ _ ∧ _›) | exact Ex.trans (And.left ‹Ex _ _ ∧ _›) ‹Ex _ _›)) (first | (go_at_call_of 64 (Value.slice a0 (len (kid f 0)) c0); refine (I0.out _ (Ex.trans E0.out (And.left ‹Ex _ _ ∧ _›))).mono ?_; rintro e w1 ⟨rfl, hb0⟩) | (go_at_call_of 64 (Value.slice a1 (len (kid f 1)) c1); refine (I1.out _ (Ex.trans E0.out (And.left ‹Ex _ _ ∧ _›))).mono ?_; rintro e w2 ⟨rfl, hb1⟩))
      go_wp2_with fail
      go_ret
      exact ⟨ret_s HS.out.symm, E0.out.trans (And.left ‹Ex _ _ ∧ _›)⟩

set_option maxHeartbeats 2000000 in
theorem l1Say_any : ∀ (r : Nat) (f : F) (a : Option Addr) (cap : Nat) (lo : Nat) (w : World), r ≤ 4 → fits r f = true → TA w lo f a →
    Calls Try.prog 65 #[.agg #[.slice a (len f) cap]] w fun e w' => e = .returned (.string (say r f)) ∧ Ex w w'
  | 0, f, a, cap, lo, w, hr, hf, hT => by simp [fits] at hf
  | r + 1, f, a, cap, lo, w, hr, hf, hT => by
    by_cases h0 : len f = 0
    · have h0' : ((len f : Int) == 0) = true := by simp [h0]
      have H0 : Hid (len f = 0) := h0
      clear h0
      go_enter Try.func65, Try.ntmps65
      go_wp2_with fail
      go_ret
      exact ⟨by rw [say, if_pos H0.out]; rfl, Ex.new _ _⟩
    · have h2 : len f = 2 := by have := fits_len hf; omega
      rw [fits_two h2, Bool.and_eq_true] at hf
      obtain ⟨b, o, rfl, hlo, hbs, hk⟩ := TA_at hT (by omega)
      obtain ⟨a0, c0, hc0, ht0⟩ := hk 0 (by omega)
      obtain ⟨a1, c1, hc1, ht1⟩ := hk 1 (by omega)
      rw [Nat.add_zero] at hc0
      have I0 : Hid _ := fun w' h => l1Say_any r (kid f 0) a0 c0 lo w' (by omega) hf.1 (TA_below ht0 h)
      have I1 : Hid _ := fun w' h => l1Say_any r (kid f 1) a1 c1 lo w' (by omega) hf.2 (TA_below ht1 h)
      have E0 : Hid (Ex w (w.alloc (.cells #[.slice (some ⟨b, o, none⟩) 2 cap] 25))) := Ex.new _ _
      have KS : Hid (∀ w', Ex (w.alloc (.cells #[.slice (some ⟨b, o, none⟩) 2 cap] 25)) w' → (Ex (w.alloc (.cells #[.slice (some ⟨b, o, none⟩) 2 cap] 25)) w' ∧ w'.cell? ⟨w.heap.size, 0, none⟩ = some (.slice (some ⟨b, o, none⟩) 2 cap) ∧ w'.cell? ⟨b, o, none⟩ = some (.slice a0 (len (kid f 0)) c0) ∧ w'.cell? ⟨b, o + 1, none⟩ = some (.slice a1 (len (kid f 1)) c1))) := fun w' h => ⟨h, Ex.at h (by simp), Ex.at h (Ex.at (Ex.new _ _) hc0), Ex.at h (Ex.at (Ex.new _ _) hc1)⟩
      have s0 := say_len r (kid f 0)
      have s1 := say_len r (kid f 1)
      have s3 : 4 ^ (r + 1) ≤ 4 ^ 5 := Nat.pow_le_pow_right (by omega) (by omega)
      have HS : Hid (say (r + 1) f = ⟨#[40]⟩ ++ say r (kid f 0) ++ ⟨#[44]⟩ ++ say r (kid f 1) ++ ⟨#[41]⟩) := by show _ = _; rw [say, if_neg h0]
      generalize say (r + 1) f = tt at *
      generalize say r (kid f 0) = t0 at *
      generalize say r (kid f 1) = t1 at *
      have n1 : ¬ 9223372036854775807 < 1 + t0.size := by omega
      have n2 : ¬ 9223372036854775807 < 1 + t0.size + 1 := by omega
      have n3 : ¬ 9223372036854775807 < 1 + t0.size + 1 + t1.size := by omega
      have n4 : ¬ 9223372036854775807 < 1 + t0.size + 1 + t1.size + 1 := by omega
      rw [h2]
      clear hk hT ht0 ht1 hf h2 h0 s0 s1 s3
      go_enter Try.func65, Try.ntmps65
      go_wp2_with fail
      go_region_held3 (fun w' => Ex (w.alloc (.cells #[.slice (some ⟨b, o, none⟩) 2 cap] 25)) w' ∧ w'.cell? ⟨w.heap.size, 0, none⟩ = some (.slice (some ⟨b, o, none⟩) 2 cap) ∧ w'.cell? ⟨b, o, none⟩ = some (.slice a0 (len (kid f 0)) c0) ∧ w'.cell? ⟨b, o + 1, none⟩ = some (.slice a1 (len (kid f 1)) c1)) ((refine KS.out _ ?_; first | exact (Ex.refl _).drew | exact (And.left ‹Ex _ _ ∧ _›) | exact Ex.trans (And.left ‹Ex _ _ ∧ _›) ‹Ex _ _›)) (first | (go_at_call_of 65 (Value.slice a0 (len (kid f 0)) c0); refine (I0.out _ (Ex.trans E0.out (And.left ‹Ex _ _ ∧ _›))).mono ?_; rintro e w1 ⟨rfl, hb0⟩) | (go_at_call_of 65 (Value.slice a1 (len (kid f 1)) c1); refine (I1.out _ (Ex.trans E0.out (And.left ‹Ex _ _ ∧ _›))).mono ?_; rintro e w2 ⟨rfl, hb1⟩))
      go_wp2_with fail
      go_ret
      exact ⟨ret_s HS.out.symm, E0.out.trans (And.left ‹Ex _ _ ∧ _›)⟩

/-- What TypeText tells. -/
def textT (f : F) : ByteArray := if fits 4 f = true then say 4 f else ⟨#[]⟩

theorem iTypeText_any (f : F) (a : Option Addr) (cap lo : Nat) (w : World) (h : TA w lo f a) :
    Calls Try.prog 29 #[.agg #[.slice a (len f) cap]] w fun e w' => e = .returned (.string (textT f)) ∧ Ex w w' := by
  have T : Hid (TA w lo f a) := h
  clear h
  go_enter Try.func29, Try.ntmps29
  go_wp2_with fail
  refine (iTypeOk_any _ _ _ _ _ (TA_below T.out (Ex.new _ _))).mono ?_
  rintro e w1 ⟨rfl, hb1⟩
  have hx1 : Ex w w1 := (Ex.new _ _).trans hb1
  have c1 : w1.cell? ⟨w.heap.size, 0, none⟩ = some (.slice a (len f) cap) := Ex.at hb1 (World.cell?_alloc_new _ _ _ _)
  cases hf : fits 4 f
  · have HR : Hid (textT f = ⟨#[]⟩) := by simp [Hid, textT, hf]
    go_wp2_with fail
    go_ret
    exact ⟨ret_s HR.out.symm, hx1⟩
  · have HR : Hid (textT f = say 4 f) := by simp [Hid, textT, hf]
    have HF : Hid (fits 4 f = true) := hf
    clear hf
    go_wp2_with fail
    refine (typeWrite_any 4 f a cap lo _ (by omega) HF.out (TA_below T.out hx1)).mono ?_
    rintro e w2 ⟨rfl, hb2⟩
    go_wp2_with fail
    go_ret
    exact ⟨ret_s HR.out.symm, hx1.trans hb2⟩

theorem sTypeText_any (f : F) (a : Option Addr) (cap lo : Nat) (w : World) (h : TA w lo f a) :
    Calls Try.prog 30 #[.agg #[.slice a (len f) cap]] w fun e w' => e = .returned (.string (textT f)) ∧ Ex w w' := by
  have T : Hid (TA w lo f a) := h
  clear h
  go_enter Try.func30, Try.ntmps30
  go_wp2_with fail
  refine (sTypeOk_any _ _ _ _ _ (TA_below T.out (Ex.new _ _))).mono ?_
  rintro e w1 ⟨rfl, hb1⟩
  have hx1 : Ex w w1 := (Ex.new _ _).trans hb1
  have c1 : w1.cell? ⟨w.heap.size, 0, none⟩ = some (.slice a (len f) cap) := Ex.at hb1 (World.cell?_alloc_new _ _ _ _)
  cases hf : fits 4 f
  · have HR : Hid (textT f = ⟨#[]⟩) := by simp [Hid, textT, hf]
    go_wp2_with fail
    go_ret
    exact ⟨ret_s HR.out.symm, hx1⟩
  · have HR : Hid (textT f = say 4 f) := by simp [Hid, textT, hf]
    have HF : Hid (fits 4 f = true) := hf
    clear hf
    go_wp2_with fail
    refine (l1Say_any 4 f a cap lo _ (by omega) HF.out (TA_below T.out hx1)).mono ?_
    rintro e w2 ⟨rfl, hb2⟩
    go_wp2_with fail
    go_ret
    exact ⟨ret_s HR.out.symm, hx1.trans hb2⟩

end Go.Proofs.Ytomnekiiccbioaa
