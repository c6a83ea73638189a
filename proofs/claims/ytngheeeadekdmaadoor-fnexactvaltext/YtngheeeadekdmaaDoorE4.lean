/- Walks: what the exact laws do with values. -/
import Derived.Test.YtngheeeadekdmaaDoorE1

import Derived.Test.YtngheeeadekdmaaDoorV1

namespace Go.Proofs.YtngheeeadekdmaaDoor

open Go.RowKit Go.Deep

attribute [local go_sem ↓] Go.wp_at_zero Go.wp_at_succ

/-- Two lists of values are the same. -/
def eqV : F → F → Bool
  | .nil, .nil => true
  | .node _ _ n k r, .node _ _ n' k' r' => (n == n' && eqV k k') && eqV r r'
  | .nil, .node _ _ _ _ _ => false
  | .node _ _ _ _ _, .nil => false

theorem eqV_refl : ∀ f : F, eqV f f = true
  | .nil => rfl
  | .node _ _ n k r => by simp [eqV, eqV_refl k, eqV_refl r]

theorem eqV_len : ∀ (f g : F), len f ≠ len g → eqV f g = false
  | .nil, .nil, h => by simp [len] at h
  | .node _ _ _ k r, .node _ _ _ k' r', h => by
    have : eqV r r' = false := eqV_len r r' (by simp only [len] at h; omega)
    simp [eqV, this]
  | .nil, .node _ _ _ _ _, _ => rfl
  | .node _ _ _ _ _, .nil, _ => rfl

theorem eqV_bad : ∀ (f g : F) (i : Nat), i < len f → (num f i == num g i && eqV (kid f i) (kid g i)) = false → eqV f g = false
  | .nil, _, i, h, _ => by simp [len] at h
  | .node _ _ _ k r, .nil, _, _, _ => rfl
  | .node _ _ _ k r, .node _ _ _ k' r', 0, _, h => by simp only [kid, num] at h; simp only [eqV, h]; rfl
  | .node _ _ _ k r, .node _ _ _ k' r', i + 1, hi, h => by
    have := eqV_bad r r' i (by simp only [len] at hi; omega) h
    simp [eqV, this]

theorem eqV_good : ∀ (f g : F), len f = len g → (∀ i, i < len f → (num f i == num g i && eqV (kid f i) (kid g i)) = true) → eqV f g = true
  | .nil, .nil, _, _ => rfl
  | .node _ _ n k r, .node _ _ n' k' r', hl, h => by
    have h0 : (n == n' && eqV k k') = true := h 0 (by simp [len])
    have h1 : eqV r r' = true := eqV_good r r' (by simp only [len] at hl; omega) fun i hi => h (i + 1) (by simp only [len]; omega)
    simp only [eqV, h0, h1]; rfl
  | .nil, .node _ _ _ _ _, hl, _ => by simp [len] at hl
  | .node _ _ _ _ _, .nil, hl, _ => by simp [len] at hl

set_option maxRecDepth 100000 in
set_option maxHeartbeats 2000000 in
theorem szVal_both : ∀ (d : Nat), (∀ (f : F) (a : Option Addr) (c lo : Nat) (l : Int) (w : World), dep f < d → len f ≤ 9223372036854775807 → Lm f → 0 ≤ l → l ≤ 1048576 → VA w lo f a →
      Calls Tryd.prog 20 #[.slice a (len f) c, .int .i64 l] w fun e w' => ∃ x : Int, e = .returned (.int .i64 x) ∧ -1 ≤ x ∧ x ≤ l ∧ (0 ≤ x → len f ≤ 1048576 ∧ Sm f) ∧ Ex w w') ∧
    (∀ (n : Int) (f : F) (a : Option Addr) (c lo : Nat) (l : Int) (w : World), dep f < d → len f ≤ 9223372036854775807 → Lm f → 0 ≤ l → l ≤ 1048576 → VA w lo f a →
      Calls Tryd.prog 9 #[.agg #[.int .i64 n, .slice a (len f) c], .int .i64 l] w fun e w' => ∃ x : Int, e = .returned (.int .i64 x) ∧ -1 ≤ x ∧ x ≤ l ∧ (0 ≤ x → len f ≤ 1048576 ∧ Sm f) ∧ Ex w w') := by
  intro d
  induction d with
  | zero => exact ⟨fun f a c lo l w hd => by omega, fun n f a c lo l w hd => by omega⟩
  | succ d ih =>
    have hS : ∀ (f : F) (a : Option Addr) (c lo : Nat) (l : Int) (w : World), dep f < d + 1 → len f ≤ 9223372036854775807 → Lm f → 0 ≤ l → l ≤ 1048576 → VA w lo f a →
      Calls Tryd.prog 20 #[.slice a (len f) c, .int .i64 l] w fun e w' => ∃ x : Int, e = .returned (.int .i64 x) ∧ -1 ≤ x ∧ x ≤ l ∧ (0 ≤ x → len f ≤ 1048576 ∧ Sm f) ∧ Ex w w' := by
      intro f a c lo l w hd hlen hlm hl0 hl1 hT
      have T : Hid (VA w lo f a) := hT
      have I : Hid _ := ih.2
      have LM : Hid (Lm f) := hlm
      clear hT hlm
      by_cases hneg : l - len f < 0
      · go_enter Tryd.func20, Tryd.ntmps20
        go_wp2_with fail
        go_ret
        exact ⟨-1, rfl, by omega, by omega, fun h => by omega, Ex.refl _⟩
      · go_enter Tryd.func20, Tryd.ntmps20
        go_wp2_with fail
        go_loopw [1, 5] (fun lv i wr => ∃ (k : Nat) (x : Int), k ≤ len f ∧ i = .int .i64 k ∧ lv = .int .i64 x ∧ 0 ≤ x ∧ x ≤ l ∧ SmTo f k ∧ Ex w wr) (fun _ i _ => len f - (intOf i).toNat)
        case atStart => exact ⟨0, l - len f, Nat.zero_le _, rfl, rfl, by omega, by omega, fun j hj => by omega, Ex.refl _⟩
        case round =>
          obtain ⟨k, x, hk, rfl, rfl, hx0, hxl, hsm, hx⟩ := hrel
          have ST : Hid (SmTo f k) := hsm
          clear hsm
          by_cases hlt : k < len f
          · obtain ⟨b, o, rfl, hlo, hbs, hkk⟩ := VA_at (VA_below T.out hx) (by omega)
            obtain ⟨hn1, a1, k1, hc1, ht1⟩ := hkk k hlt
            have T1 : Hid (VA wr lo (kid f k) a1) := ht1
            clear hkk ht1
            go_wp2_with fail
            refine (I.out (num f k) (kid f k) a1 k1 lo x _ (by have := dep_kid f k hlt; omega) (Lm_kid LM.out k hlt).1 (Lm_kid LM.out k hlt).2 hx0 (by omega) T1.out).mono ?_
            rintro e w1 ⟨y, rfl, hy0, hy1, hysm, hb1⟩
            have YS : Hid (0 ≤ y → len (kid f k) ≤ 1048576 ∧ Sm (kid f k)) := hysm
            clear hysm
            by_cases hy : y < 0
            · go_wp2_with fail
              go_ret
              exact ⟨-1, rfl, by omega, by omega, fun h => by omega, hx.trans hb1⟩
            · go_wp2_with fail
              go_roundw
              case rel => exact ⟨k + 1, y, by omega, by go_num, rfl, by omega, by omega, fun j hj => by
                by_cases hj' : j < k
                · exact ST.out j hj'
                · rw [show j = k by omega]; have := YS.out (by omega); exact ⟨by omega, this.2⟩, hx.trans hb1⟩
              case measure => simp [intOf]; omega
          · go_wp2_with fail
            go_ret
            exact ⟨x, rfl, by omega, hxl, fun _ => ⟨by omega, Sm_of (by rw [show len f = k by omega]; exact ST.out)⟩, hx⟩
    refine ⟨hS, ?_⟩
    intro n f a c lo l w hd hlen hlm hl0 hl1 hT
    have HS : Hid _ := hS
    clear hS ih
    go_enter Tryd.func9, Tryd.ntmps9
    go_wp2_with fail
    refine (HS.out f a c lo l _ hd hlen hlm hl0 hl1 (VA_below hT (Ex.new _ _))).mono ?_
    rintro e w1 ⟨y, rfl, hy0, hy1, hysm, hb1⟩
    have YS : Hid (0 ≤ y → len f ≤ 1048576 ∧ Sm f) := hysm
    clear hysm
    by_cases hy : y < 0
    · go_wp2_with fail
      go_ret
      exact ⟨-1, rfl, by omega, by omega, fun h => by omega, (Ex.new _ _).trans hb1⟩
    · go_wp2_with fail
      go_ret
      exact ⟨y, rfl, by omega, by omega, YS.out, (Ex.new _ _).trans hb1⟩

set_option maxRecDepth 100000 in
set_option maxHeartbeats 2000000 in
theorem eqVal_both : ∀ (d : Nat), (∀ (f g : F) (a a' : Option Addr) (c c' lo lo' : Nat) (w : World), dep f < d → len f ≤ 1000000000 → Sm f → VA w lo f a → VA w lo' g a' →
      Calls Tryd.prog 22 #[.slice a (len f) c, .slice a' (len g) c'] w fun e w' => e = .returned (.bool (eqV f g)) ∧ Ex w w') ∧
    (∀ (n m : Int) (f g : F) (a a' : Option Addr) (c c' lo lo' : Nat) (w : World), dep f < d → len f ≤ 1000000000 → Sm f → VA w lo f a → VA w lo' g a' →
      Calls Tryd.prog 11 #[.agg #[.int .i64 n, .slice a (len f) c], .agg #[.int .i64 m, .slice a' (len g) c']] w fun e w' => e = .returned (.bool (n == m && eqV f g)) ∧ Ex w w') := by
  intro d
  induction d with
  | zero => exact ⟨fun f g a a' c c' lo lo' w hd => by omega, fun n m f g a a' c c' lo lo' w hd => by omega⟩
  | succ d ih =>
    have hS : ∀ (f g : F) (a a' : Option Addr) (c c' lo lo' : Nat) (w : World), dep f < d + 1 → len f ≤ 1000000000 → Sm f → VA w lo f a → VA w lo' g a' →
      Calls Tryd.prog 22 #[.slice a (len f) c, .slice a' (len g) c'] w fun e w' => e = .returned (.bool (eqV f g)) ∧ Ex w w' := by
      intro f g a a' c c' lo lo' w hd hl hs hT hT'
      have T : Hid (VA w lo f a) := hT
      have T' : Hid (VA w lo' g a') := hT'
      have I : Hid _ := ih.2
      have SS : Hid (Sm f) := hs
      clear hT hT' ih hs
      by_cases hlen : len f = len g
      · have e0 : ((len f : Int) != (len g : Int)) = false := by simp [hlen]
        have hle : len f ≤ len g := by omega
        have hge : len g ≤ len f := by omega
        have HL : Hid (len f = len g) := hlen
        clear hlen
        go_enter Tryd.func22, Tryd.ntmps22
        go_wp2_with fail
        go_loopw [5] (fun i wr => ∃ k : Nat, k ≤ len f ∧ i = .int .i64 k ∧ Ex w wr ∧ ∀ j, j < k → (num f j == num g j && eqV (kid f j) (kid g j)) = true) (fun i _ => len f - (intOf i).toNat)
        case atStart => exact ⟨0, Nat.zero_le _, rfl, Ex.refl _, fun j hj => by omega⟩
        case round =>
          obtain ⟨k, hk, rfl, hx, hfit⟩ := hrel
          have FT : Hid (∀ j, j < k → (num f j == num g j && eqV (kid f j) (kid g j)) = true) := hfit
          clear hfit
          by_cases hlt : k < len f
          · obtain ⟨b, o, rfl, hlo, hbs, hkk⟩ := VA_at (VA_below T.out hx) (by omega)
            obtain ⟨hn1, a1, c1, hc1, ht1⟩ := hkk k hlt
            obtain ⟨b', o', rfl, hlo', hbs', hkk'⟩ := VA_at (VA_below T'.out hx) (by omega)
            obtain ⟨hn2, a2, c2, hc2, ht2⟩ := hkk' k (by omega)
            have KS : Hid (∀ w', Ex wr w' → (Ex wr w' ∧ w'.cell? ⟨b, o + k * 2, none⟩ = some (.int .i64 (num f k)) ∧ w'.cell? ⟨b, o + k * 2 + 1, none⟩ = some (.slice a1 (len (kid f k)) c1) ∧ w'.cell? ⟨b', o' + k * 2, none⟩ = some (.int .i64 (num g k)) ∧ w'.cell? ⟨b', o' + k * 2 + 1, none⟩ = some (.slice a2 (len (kid g k)) c2))) := fun w' h => ⟨h, Ex.at h hn1, Ex.at h hc1, Ex.at h hn2, Ex.at h hc2⟩
            have hI : Hid (∀ w', Ex wr w' → Calls Tryd.prog 11 #[.agg #[.int .i64 (num f k), .slice a1 (len (kid f k)) c1], .agg #[.int .i64 (num g k), .slice a2 (len (kid g k)) c2]] w' fun e w'' => e = .returned (.bool (num f k == num g k && eqV (kid f k) (kid g k))) ∧ Ex w' w'') := fun w' h =>
              I.out (num f k) (num g k) (kid f k) (kid g k) a1 a2 c1 c2 lo lo' w' (by have := dep_kid f k hlt; omega) (Sm_kid SS.out k hlt).1 (Sm_kid SS.out k hlt).2 (VA_below ht1 h) (VA_below ht2 h)
            have i0 : (0 : Int) ≤ (k : Int) := by omega
            have i1 : (k : Int) < (len f : Int) := by omega
            have i2 : (k : Int) < (len g : Int) := by omega
            obtain ⟨z, hzz⟩ : ∃ z, z = (num f k == num g k && eqV (kid f k) (kid g k)) := ⟨_, rfl⟩
            rw [← hzz] at hI
            have HZ : Hid (z = (num f k == num g k && eqV (kid f k) (kid g k))) := hzz
            clear hkk hkk' ht1 ht2 hzz
            go_wp2_with fail
            go_region_held3 (fun w' => Ex wr w' ∧ w'.cell? ⟨b, o + k * 2, none⟩ = some (.int .i64 (num f k)) ∧ w'.cell? ⟨b, o + k * 2 + 1, none⟩ = some (.slice a1 (len (kid f k)) c1) ∧ w'.cell? ⟨b', o' + k * 2, none⟩ = some (.int .i64 (num g k)) ∧ w'.cell? ⟨b', o' + k * 2 + 1, none⟩ = some (.slice a2 (len (kid g k)) c2)) ((refine KS.out _ ?_; first | exact (Ex.refl _).drew | exact Ex.trans (And.left ‹Ex _ _ ∧ _›) ‹Ex _ _›)) (first | (go_at_call 11; refine (hI.out _ (And.left ‹Ex _ _ ∧ _›)).mono ?_; rintro e w7 ⟨rfl, hb7⟩))
            have hx7 : Ex wr w7 := And.left ‹Ex wr w7 ∧ _›
            cases z
            · go_wp2_with fail
              go_ret
              exact ⟨ret_b (eqV_bad _ _ k hlt HZ.out.symm).symm, hx.trans hx7⟩
            · go_wp2_with fail
              go_roundw
              case rel => exact ⟨k + 1, by omega, by go_num, hx.trans hx7, fun j hj => by
                by_cases hj' : j < k
                · exact FT.out j hj'
                · rw [show j = k by omega]; exact HZ.out.symm⟩
              case measure => simp [intOf]; omega
          · go_wp2_with fail
            go_ret
            exact ⟨ret_b (eqV_good _ _ HL.out fun j hj => FT.out j (by omega)).symm, hx⟩
      · have e0 : ((len f : Int) != (len g : Int)) = true := by simp; omega
        go_enter Tryd.func22, Tryd.ntmps22
        go_wp2_with fail
        go_ret
        exact ⟨ret_b (eqV_len _ _ hlen).symm, Ex.refl _⟩
    refine ⟨hS, ?_⟩
    intro n m f g a a' c c' lo lo' w hd hl hs hT hT'
    have HS : Hid _ := hS
    clear hS ih
    by_cases hn : n = m
    · have R : Hid ((n == m && eqV f g) = eqV f g) := by show _ = _; simp [hn]
      have e0 : (n != m) = false := by simp [hn]
      clear hn
      go_enter Tryd.func11, Tryd.ntmps11
      go_wp2_with fail
      refine (HS.out f g a a' c c' lo lo' _ hd hl hs (VA_below hT ((Ex.new _ _).alloc _)) (VA_below hT' ((Ex.new _ _).alloc _))).mono ?_
      rintro e w1 ⟨rfl, hb1⟩
      generalize hfk : eqV f g = z
      cases z
      · go_wp2_with fail
        go_ret
        exact ⟨ret_b (by rw [R.out, hfk]), ((Ex.new _ _).alloc _).trans hb1⟩
      · go_wp2_with fail
        go_ret
        exact ⟨ret_b (by rw [R.out, hfk]), ((Ex.new _ _).alloc _).trans hb1⟩
    · have R : Hid ((n == m && eqV f g) = false) := by show _ = _; simp [hn]
      have e0 : (n != m) = true := by simp [hn]
      go_enter Tryd.func11, Tryd.ntmps11
      go_wp2_with fail
      go_ret
      exact ⟨ret_b R.out.symm, (Ex.new _ _).alloc _⟩

end Go.Proofs.YtngheeeadekdmaaDoor
