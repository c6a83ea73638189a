/- Walks: a value's text. -/
import Derived.Test.YtngheeeadekdmaaDoorT2

import Derived.Test.YtngheeeadekdmaaDoorV11

namespace Go.Proofs.YtngheeeadekdmaaDoor

open Go.RowKit Go.Deep

attribute [local go_sem ↓] Go.wp_at_zero Go.wp_at_succ

/-- A value's text. -/
def sayV : Nat → Int → F → ByteArray
  | 0, _, _ => ⟨#[]⟩
  | r + 1, n, f => if len f = 0 then ⟨(Lib.decDigits n.toNat).toArray⟩ else ⟨#[40]⟩ ++ sayV r (num f 0) (kid f 0) ++ ⟨#[44]⟩ ++ sayV r (num f 1) (kid f 1) ++ ⟨#[41]⟩

theorem vSome_num {r : Nat} {n : Int} {f : F} (h : (vType (r + 1) n f).isSome = true) (h0 : len f = 0) : 0 ≤ n ∧ n ≤ 9999 := by
  rw [vType_num h0] at h
  split at h
  · assumption
  · cases h
theorem vSome_two {r : Nat} {n : Int} {f : F} (h : (vType (r + 1) n f).isSome = true) (h0 : len f ≠ 0) : len f = 2 ∧ (vType r (num f 0) (kid f 0)).isSome = true ∧ (vType r (num f 1) (kid f 1)).isSome = true := by
  by_cases hb : len f = 2 ∧ n = 0
  · rw [vType_two hb.1 hb.2] at h
    cases h1 : vType r (num f 0) (kid f 0) with
    | none => rw [h1] at h; cases h
    | some a =>
      cases h2 : vType r (num f 1) (kid f 1) with
      | none => rw [h1, h2] at h; cases h
      | some b => exact ⟨hb.1, rfl, rfl⟩
  · rw [vType_bad h0 hb] at h; cases h

theorem sayV_len : ∀ (r : Nat) (n : Int) (f : F), (vType r n f).isSome = true → (sayV r n f).size ≤ 4 ^ (r + 1)
  | 0, _, _, _ => by simp [sayV, ByteArray.size]
  | r + 1, n, f, h => by
    have h3 : 4 ^ (r + 1 + 1) = 4 * 4 ^ (r + 1) := by rw [Nat.pow_succ]; omega
    have h4 : 4 ≤ 4 ^ (r + 1) := by
      have := Nat.pow_le_pow_right (n := 4) (by omega) (show 1 ≤ r + 1 by omega); simpa using this
    by_cases h0 : len f = 0
    · have hn := vSome_num h h0
      have hl := dec_len 3 n.toNat (by omega)
      rw [sayV, if_pos h0]
      show (Lib.decDigits n.toNat).toArray.size ≤ _
      simp; omega
    · obtain ⟨_, k0, k1⟩ := vSome_two h h0
      have h1 := sayV_len r _ _ k0
      have h2 := sayV_len r _ _ k1
      rw [sayV, if_neg h0]
      simp only [ByteArray.size_append]
      have e1 : (⟨#[40]⟩ : ByteArray).size = 1 := rfl
      have e2 : (⟨#[44]⟩ : ByteArray).size = 1 := rfl
      have e3 : (⟨#[41]⟩ : ByteArray).size = 1 := rfl
      omega

theorem itoa_nat {n : Int} (h : 0 ≤ n) : Lib.itoa n = Lib.decDigits n.toNat := by rw [Lib.itoa, if_neg (by omega)]

set_option maxRecDepth 100000 in
set_option maxHeartbeats 4000000 in
theorem valWrite_any : ∀ (r : Nat) (n : Int) (f : F) (a : Option Addr) (cap : Nat) (lo : Nat) (w : World), r ≤ 4 → (vType r n f).isSome = true → VA w lo f a → Tab w → 
    Calls Tryd.prog 17 #[.agg #[.int .i64 n, .slice a (len f) cap]] w fun e w' => e = .returned (.string (sayV r n f)) ∧ Ex w w'
  | 0, n, f, a, cap, lo, w, hr, hf, hT, ht => by simp [vType] at hf
  | r + 1, n, f, a, cap, lo, w, hr, hf, hT, ht => by
    by_cases h0 : len f = 0
    · have h0' : ((len f : Int) == 0) = true := by simp [h0]
      obtain ⟨hn0, hn1⟩ := vSome_num hf h0
      have HR : Hid (sayV (r + 1) n f = ⟨(Lib.decDigits n.toNat).toArray⟩) := by show _ = _; rw [sayV, if_pos h0]
      have HT : Hid (∀ w', Ex w w' → Tab w') := fun _ h => ht.ex h
      clear h0 hf hT ht
      go_enter Tryd.func17, Tryd.ntmps17
      go_wp2_with fail
      refine (itoa_any n (by omega) (by omega) _ (HT.out _ (Ex.new _ _))).mono ?_
      rintro e w1 ⟨rfl, hb1⟩
      go_wp2_with fail
      go_ret
      exact ⟨ret_s (by rw [HR.out, itoa_nat hn0]), (Ex.new _ _).trans hb1⟩
    · obtain ⟨h2, f0, f1⟩ := vSome_two hf h0
      have h0' : ((len f : Int) == 0) = false := by simp; omega
      obtain ⟨b, o, a0, a1, c0, c1, rfl, hlo, hbs, hn0, hc0, hn1, hc1, ht0, ht1⟩ := VA_pair hT h2
      have I0 : Hid _ := fun w' (h : Ex w w') => valWrite_any r (num f 0) (kid f 0) a0 c0 lo w' (by omega) f0 (VA_below ht0 h) (ht.ex h)
      have I1 : Hid _ := fun w' (h : Ex w w') => valWrite_any r (num f 1) (kid f 1) a1 c1 lo w' (by omega) f1 (VA_below ht1 h) (ht.ex h)
      have s0 := sayV_len r _ _ f0
      have s1 := sayV_len r _ _ f1
      have s3 : 4 ^ (r + 1) ≤ 4 ^ 5 := Nat.pow_le_pow_right (by omega) (by omega)
      have HS : Hid (sayV (r + 1) n f = ⟨#[40]⟩ ++ sayV r (num f 0) (kid f 0) ++ ⟨#[44]⟩ ++ sayV r (num f 1) (kid f 1) ++ ⟨#[41]⟩) := by show _ = _; rw [sayV, if_neg h0]
      generalize sayV (r + 1) n f = tt at *
      generalize sayV r (num f 0) (kid f 0) = t0 at *
      generalize sayV r (num f 1) (kid f 1) = t1 at *
      generalize num f 0 = m0 at *
      generalize num f 1 = m1 at *
      have E0 : Hid (Ex w (w.alloc (.cells #[.int .i64 n, .slice (some ⟨b, o, none⟩) 2 cap] 25))) := Ex.new _ _
      have KS : Hid (∀ w', Ex (w.alloc (.cells #[.int .i64 n, .slice (some ⟨b, o, none⟩) 2 cap] 25)) w' → (Ex (w.alloc (.cells #[.int .i64 n, .slice (some ⟨b, o, none⟩) 2 cap] 25)) w' ∧ w'.cell? ⟨w.heap.size, 0, none⟩ = some (.int .i64 n) ∧ w'.cell? ⟨w.heap.size, 1, none⟩ = some (.slice (some ⟨b, o, none⟩) 2 cap) ∧ w'.cell? ⟨b, o, none⟩ = some (.int .i64 m0) ∧ w'.cell? ⟨b, o + 1, none⟩ = some (.slice a0 (len (kid f 0)) c0) ∧ w'.cell? ⟨b, o + 2, none⟩ = some (.int .i64 m1) ∧ w'.cell? ⟨b, o + 3, none⟩ = some (.slice a1 (len (kid f 1)) c1))) := fun w' h => ⟨h, Ex.at h (by simp), Ex.at h (by simp), Ex.at h (Ex.at (Ex.new _ _) hn0), Ex.at h (Ex.at (Ex.new _ _) hc0), Ex.at h (Ex.at (Ex.new _ _) hn1), Ex.at h (Ex.at (Ex.new _ _) hc1)⟩
      have n1 : ¬ 9223372036854775807 < 1 + t0.size := by omega
      have n2 : ¬ 9223372036854775807 < 1 + t0.size + 1 := by omega
      have n3 : ¬ 9223372036854775807 < 1 + t0.size + 1 + t1.size := by omega
      have n4 : ¬ 9223372036854775807 < 1 + t0.size + 1 + t1.size + 1 := by omega
      rw [h2]
      clear hT ht0 ht1 hf h2 h0 h0' s0 s1 s3 f0 f1 ht
      go_enter Tryd.func17, Tryd.ntmps17
      go_wp2_with fail
      go_region_held3 (fun w' => Ex (w.alloc (.cells #[.int .i64 n, .slice (some ⟨b, o, none⟩) 2 cap] 25)) w' ∧ w'.cell? ⟨w.heap.size, 0, none⟩ = some (.int .i64 n) ∧ w'.cell? ⟨w.heap.size, 1, none⟩ = some (.slice (some ⟨b, o, none⟩) 2 cap) ∧ w'.cell? ⟨b, o, none⟩ = some (.int .i64 m0) ∧ w'.cell? ⟨b, o + 1, none⟩ = some (.slice a0 (len (kid f 0)) c0) ∧ w'.cell? ⟨b, o + 2, none⟩ = some (.int .i64 m1) ∧ w'.cell? ⟨b, o + 3, none⟩ = some (.slice a1 (len (kid f 1)) c1)) ((refine KS.out _ ?_; first | exact (Ex.refl _).drew | exact (And.left ‹Ex _ _ ∧ _›) | exact Ex.trans (And.left ‹Ex _ _ ∧ _›) ‹Ex _ _›)) (first | (go_at_call_of 17 (Value.slice a0 (len (kid f 0)) c0); refine (I0.out _ (Ex.trans E0.out (And.left ‹Ex _ _ ∧ _›))).mono ?_; rintro e w1 ⟨rfl, hb0⟩) | (go_at_call_of 17 (Value.slice a1 (len (kid f 1)) c1); refine (I1.out _ (Ex.trans E0.out (And.left ‹Ex _ _ ∧ _›))).mono ?_; rintro e w2 ⟨rfl, hb1⟩))
      go_wp2_with fail
      go_ret
      exact ⟨ret_s HS.out.symm, E0.out.trans (And.left ‹Ex _ _ ∧ _›)⟩

set_option maxRecDepth 100000 in
set_option maxHeartbeats 4000000 in
theorem l1Show_any : ∀ (r : Nat) (n : Int) (f : F) (a : Option Addr) (cap : Nat) (lo : Nat) (w : World), r ≤ 4 → (vType r n f).isSome = true → VA w lo f a → 
    Calls Tryd.prog 19 #[.agg #[.int .i64 n, .slice a (len f) cap]] w fun e w' => e = .returned (.string (sayV r n f)) ∧ Ex w w'
  | 0, n, f, a, cap, lo, w, hr, hf, hT => by simp [vType] at hf
  | r + 1, n, f, a, cap, lo, w, hr, hf, hT => by
    by_cases h0 : len f = 0
    · have h0' : ((len f : Int) == 0) = true := by simp [h0]
      obtain ⟨hn0, hn1⟩ := vSome_num hf h0
      have HR : Hid (sayV (r + 1) n f = ⟨(Lib.decDigits n.toNat).toArray⟩) := by show _ = _; rw [sayV, if_pos h0]
      skip
      clear h0 hf hT
      go_enter Tryd.func19, Tryd.ntmps19
      go_wp2_with fail
      refine (l6Dec_any 3 n _ (by omega) hn0 (by omega)).mono ?_
      rintro e w1 ⟨rfl, hb1⟩
      go_wp2_with fail
      go_ret
      exact ⟨ret_s HR.out.symm, (Ex.new _ _).trans hb1⟩
    · obtain ⟨h2, f0, f1⟩ := vSome_two hf h0
      have h0' : ((len f : Int) == 0) = false := by simp; omega
      obtain ⟨b, o, a0, a1, c0, c1, rfl, hlo, hbs, hn0, hc0, hn1, hc1, ht0, ht1⟩ := VA_pair hT h2
      have I0 : Hid _ := fun w' (h : Ex w w') => l1Show_any r (num f 0) (kid f 0) a0 c0 lo w' (by omega) f0 (VA_below ht0 h)
      have I1 : Hid _ := fun w' (h : Ex w w') => l1Show_any r (num f 1) (kid f 1) a1 c1 lo w' (by omega) f1 (VA_below ht1 h)
      have s0 := sayV_len r _ _ f0
      have s1 := sayV_len r _ _ f1
      have s3 : 4 ^ (r + 1) ≤ 4 ^ 5 := Nat.pow_le_pow_right (by omega) (by omega)
      have HS : Hid (sayV (r + 1) n f = ⟨#[40]⟩ ++ sayV r (num f 0) (kid f 0) ++ ⟨#[44]⟩ ++ sayV r (num f 1) (kid f 1) ++ ⟨#[41]⟩) := by show _ = _; rw [sayV, if_neg h0]
      generalize sayV (r + 1) n f = tt at *
      generalize sayV r (num f 0) (kid f 0) = t0 at *
      generalize sayV r (num f 1) (kid f 1) = t1 at *
      generalize num f 0 = m0 at *
      generalize num f 1 = m1 at *
      have E0 : Hid (Ex w (w.alloc (.cells #[.int .i64 n, .slice (some ⟨b, o, none⟩) 2 cap] 25))) := Ex.new _ _
      have KS : Hid (∀ w', Ex (w.alloc (.cells #[.int .i64 n, .slice (some ⟨b, o, none⟩) 2 cap] 25)) w' → (Ex (w.alloc (.cells #[.int .i64 n, .slice (some ⟨b, o, none⟩) 2 cap] 25)) w' ∧ w'.cell? ⟨w.heap.size, 0, none⟩ = some (.int .i64 n) ∧ w'.cell? ⟨w.heap.size, 1, none⟩ = some (.slice (some ⟨b, o, none⟩) 2 cap) ∧ w'.cell? ⟨b, o, none⟩ = some (.int .i64 m0) ∧ w'.cell? ⟨b, o + 1, none⟩ = some (.slice a0 (len (kid f 0)) c0) ∧ w'.cell? ⟨b, o + 2, none⟩ = some (.int .i64 m1) ∧ w'.cell? ⟨b, o + 3, none⟩ = some (.slice a1 (len (kid f 1)) c1))) := fun w' h => ⟨h, Ex.at h (by simp), Ex.at h (by simp), Ex.at h (Ex.at (Ex.new _ _) hn0), Ex.at h (Ex.at (Ex.new _ _) hc0), Ex.at h (Ex.at (Ex.new _ _) hn1), Ex.at h (Ex.at (Ex.new _ _) hc1)⟩
      have n1 : ¬ 9223372036854775807 < 1 + t0.size := by omega
      have n2 : ¬ 9223372036854775807 < 1 + t0.size + 1 := by omega
      have n3 : ¬ 9223372036854775807 < 1 + t0.size + 1 + t1.size := by omega
      have n4 : ¬ 9223372036854775807 < 1 + t0.size + 1 + t1.size + 1 := by omega
      rw [h2]
      clear hT ht0 ht1 hf h2 h0 h0' s0 s1 s3 f0 f1
      go_enter Tryd.func19, Tryd.ntmps19
      go_wp2_with fail
      go_region_held3 (fun w' => Ex (w.alloc (.cells #[.int .i64 n, .slice (some ⟨b, o, none⟩) 2 cap] 25)) w' ∧ w'.cell? ⟨w.heap.size, 0, none⟩ = some (.int .i64 n) ∧ w'.cell? ⟨w.heap.size, 1, none⟩ = some (.slice (some ⟨b, o, none⟩) 2 cap) ∧ w'.cell? ⟨b, o, none⟩ = some (.int .i64 m0) ∧ w'.cell? ⟨b, o + 1, none⟩ = some (.slice a0 (len (kid f 0)) c0) ∧ w'.cell? ⟨b, o + 2, none⟩ = some (.int .i64 m1) ∧ w'.cell? ⟨b, o + 3, none⟩ = some (.slice a1 (len (kid f 1)) c1)) ((refine KS.out _ ?_; first | exact (Ex.refl _).drew | exact (And.left ‹Ex _ _ ∧ _›) | exact Ex.trans (And.left ‹Ex _ _ ∧ _›) ‹Ex _ _›)) (first | (go_at_call_of 19 (Value.slice a0 (len (kid f 0)) c0); refine (I0.out _ (Ex.trans E0.out (And.left ‹Ex _ _ ∧ _›))).mono ?_; rintro e w1 ⟨rfl, hb0⟩) | (go_at_call_of 19 (Value.slice a1 (len (kid f 1)) c1); refine (I1.out _ (Ex.trans E0.out (And.left ‹Ex _ _ ∧ _›))).mono ?_; rintro e w2 ⟨rfl, hb1⟩))
      go_wp2_with fail
      go_ret
      exact ⟨ret_s HS.out.symm, E0.out.trans (And.left ‹Ex _ _ ∧ _›)⟩


/-- What ValText tells. -/
def textV (n : Int) (f : F) : ByteArray := if (vType 4 n f).isSome = true then sayV 4 n f else ⟨#[]⟩

set_option maxHeartbeats 2000000 in
theorem iValText_any (n : Int) (f : F) (a : Option Addr) (cap lo : Nat) (w : World) (h : VA w lo f a) (ht : Tab w) :
    Calls Tryd.prog 7 #[.agg #[.int .i64 n, .slice a (len f) cap]] w fun e w' => e = .returned (.string (textV n f)) ∧ Ex w w' := by
  have T : Hid (∀ w', Ex w w' → VA w' lo f a) := fun _ k => VA_below h k
  have HT : Hid (∀ w', Ex w w' → Tab w') := fun _ k => ht.ex k
  clear h ht
  go_enter Tryd.func7, Tryd.ntmps7
  go_wp2_with fail
  refine (valType_any _ _ _ _ _ _ (T.out _ (Ex.new _ _))).mono ?_
  rintro e w1 ⟨a1, c1, rfl, _, hb1⟩
  have hx1 : Ex w w1 := (Ex.new _ _).trans hb1
  have q0 : w1.cell? ⟨w.heap.size, 0, none⟩ = some (.int .i64 n) := Ex.at hb1 (by simp)
  have q1 : w1.cell? ⟨w.heap.size, 1, none⟩ = some (.slice a (len f) cap) := Ex.at hb1 (by simp)
  have z1 : w.heap.size < w1.heap.size := World.block_lt_of_cell? _ _ q0
  cases hf : (vType 4 n f).isSome
  · have HR : Hid (textV n f = ⟨#[]⟩) := by simp [Hid, textV, hf]
    go_wp2_with fail
    go_ret
    exact ⟨ret_s HR.out.symm, by first | exact hx1 | exact hx1.alloc _⟩
  · have HR : Hid (textV n f = sayV 4 n f) := by simp [Hid, textV, hf]
    have HF : Hid ((vType 4 n f).isSome = true) := hf
    clear hf
    go_wp2_with fail
    have hx2 := hx1.alloc (.cells #[.slice a1 (len ((vType 4 n f).getD .nil)) c1] 41)
    refine (valWrite_any 4 n f a cap lo _ (by omega) HF.out (T.out _ hx2) (HT.out _ hx2)).mono ?_
    rintro e w2 ⟨rfl, hb2⟩
    go_wp2_with fail
    go_ret
    exact ⟨ret_s HR.out.symm, hx2.trans hb2⟩

set_option maxHeartbeats 2000000 in
theorem sValText_any (n : Int) (f : F) (a : Option Addr) (cap lo : Nat) (w : World) (hl : len f ≤ 1000000000) (hs : Sm f) (h : VA w lo f a) :
    Calls Tryd.prog 8 #[.agg #[.int .i64 n, .slice a (len f) cap]] w fun e w' => e = .returned (.string (textV n f)) ∧ Ex w w' := by
  have T : Hid (∀ w', Ex w w' → VA w' lo f a) := fun _ k => VA_below h k
  have SM : Hid (len f ≤ 1000000000 ∧ Sm f) := ⟨hl, hs⟩
  clear h hl hs
  go_enter Tryd.func8, Tryd.ntmps8
  go_wp2_with fail
  refine (l1Any_any _ _ _ _ _ _ SM.out.1 SM.out.2 (T.out _ (Ex.new _ _))).mono ?_
  rintro e w1 ⟨rfl, hb1⟩
  have hx1 : Ex w w1 := (Ex.new _ _).trans hb1
  have q0 : w1.cell? ⟨w.heap.size, 0, none⟩ = some (.int .i64 n) := Ex.at hb1 (by simp)
  have q1 : w1.cell? ⟨w.heap.size, 1, none⟩ = some (.slice a (len f) cap) := Ex.at hb1 (by simp)
  have z1 : w.heap.size < w1.heap.size := World.block_lt_of_cell? _ _ q0
  cases hf : (vType 4 n f).isSome
  · have HR : Hid (textV n f = ⟨#[]⟩) := by simp [Hid, textV, hf]
    go_wp2_with fail
    go_ret
    exact ⟨ret_s HR.out.symm, hx1⟩
  · have HR : Hid (textV n f = sayV 4 n f) := by simp [Hid, textV, hf]
    have HF : Hid ((vType 4 n f).isSome = true) := hf
    clear hf
    go_wp2_with fail
    refine (l1Show_any 4 n f a cap lo _ (by omega) HF.out (T.out _ hx1)).mono ?_
    rintro e w2 ⟨rfl, hb2⟩
    go_wp2_with fail
    go_ret
    exact ⟨ret_s HR.out.symm, hx1.trans hb2⟩

end Go.Proofs.YtngheeeadekdmaaDoor
