/- The law on texts of types, walked. Walks: what the exact laws do with types. Walks: what the exact laws do with values. Parts put into values, without the program. Terms that are ok: of what shape they are. Walks: what terms say, by the program, however deep. Walks: what a term says, by the specification: faults, numbers and names. What two numbers make, by both; what is put is of a type. -/
import Derived.Test.YtldbmlojgakieaaGreatDoorGW6
import Derived.Test.YtldbmlojgakieaaGreatDoorGW5
import Derived.Test.YtldbmlojgakieaaGreatDoorGV3
import Derived.Test.YtldbmlojgakieaaGreatDoorGPR4
namespace Go.Proofs.YtldbmlojgakieaaGreatDoor

open Go.RowKit Go.Deep

theorem data_app (a b : ByteArray) : (a ++ b).data.toList = a.data.toList ++ b.data.toList := by
  rw [ByteArray.data_append]; simp

def sayL (r : Nat) (f : F) : List UInt8 := (say r f).data.toList
theorem sayL_nil {r : Nat} {f : F} (h : len f = 0) : sayL (r + 1) f = [105] := by simp [sayL, say, h]
theorem sayL_two {r : Nat} {f : F} (h : len f = 2) : sayL (r + 1) f = 40 :: (sayL r (kid f 0) ++ (44 :: (sayL r (kid f 1) ++ [41]))) := by
  simp [sayL, say, h]

theorem eqT_pair {f g : F} (h : len f = 2) (h' : len g = 2) (h0 : eqT (kid f 0) (kid g 0) = true) (h1 : eqT (kid f 1) (kid g 1) = true) : eqT f g = true :=
  eqT_good f g (by omega) fun i hi => by
    have : i = 0 ∨ i = 1 := by omega
    rcases this with rfl | rfl
    · exact h0
    · exact h1

theorem eqT_nil {f g : F} (h : len f = 0) (h' : len g = 0) : eqT f g = true := eqT_good f g (by omega) fun i hi => by omega

theorem say_inj : ∀ (r s : Nat) (f g : F) (X Y : List UInt8), fits r f = true → fits s g = true → sayL r f ++ X = sayL s g ++ Y → eqT f g = true ∧ X = Y
  | 0, _, f, g, X, Y, h, _, _ => by simp [fits] at h
  | r + 1, 0, f, g, X, Y, _, h, _ => by simp [fits] at h
  | r + 1, s + 1, f, g, X, Y, hf, hg, e => by
    rcases fits_len hf with h0 | h2 <;> rcases fits_len hg with k0 | k2
    · rw [sayL_nil h0, sayL_nil k0] at e
      exact ⟨eqT_nil h0 k0, by simpa using e⟩
    · rw [sayL_nil h0, sayL_two k2] at e; simp at e
    · rw [sayL_two h2, sayL_nil k0] at e; simp at e
    · rw [sayL_two h2, sayL_two k2] at e
      simp only [List.cons_append, List.append_assoc, List.cons.injEq, true_and, List.nil_append] at e
      rw [fits_two h2, Bool.and_eq_true] at hf
      rw [fits_two k2, Bool.and_eq_true] at hg
      obtain ⟨e0, e1⟩ := say_inj r s (kid f 0) (kid g 0) _ _ hf.1 hg.1 e
      simp only [List.cons.injEq, true_and] at e1
      obtain ⟨e2, e3⟩ := say_inj r s (kid f 1) (kid g 1) _ _ hf.2 hg.2 e1
      simp only [List.cons.injEq, true_and] at e3
      exact ⟨eqT_pair h2 k2 e0 e2, e3⟩

theorem eqT_kid {f g : F} (h : eqT f g = true) : len f = len g ∧ ∀ i, i < len f → eqT (kid f i) (kid g i) = true := by
  refine ⟨?_, fun i hi => ?_⟩
  · by_cases hl : len f = len g
    · exact hl
    · rw [eqT_len _ _ hl] at h; cases h
  · cases hk : eqT (kid f i) (kid g i)
    · rw [eqT_bad _ _ i hi hk] at h; cases h
    · rfl

theorem say_eq : ∀ (r : Nat) (f g : F), fits r f = true → eqT f g = true → say r f = say r g
  | 0, _, _, h, _ => by simp [fits] at h
  | r + 1, f, g, hf, e => by
    obtain ⟨hl, hk⟩ := eqT_kid e
    rcases fits_len hf with h0 | h2
    · simp [say, h0, ← hl]
    · rw [fits_two h2, Bool.and_eq_true] at hf
      have e0 := say_eq r _ _ hf.1 (hk 0 (by omega))
      have e1 := say_eq r _ _ hf.2 (hk 1 (by omega))
      simp [say, ← hl, h2, e0, e1]

theorem say_iff {r : Nat} {f g : F} (hf : fits r f = true) (hg : fits r g = true) : say r f = say r g ↔ eqT f g = true := by
  refine ⟨fun h => ?_, say_eq r f g hf⟩
  exact (say_inj r r f g [] [] hf hg (by simp [sayL, h])).1

theorem say_pos : ∀ {r : Nat} {f : F}, fits r f = true → 0 < (say r f).size
  | 0, f, h => by simp [fits] at h
  | r + 1, f, _ => by
    simp only [say]
    split
    · simp [ByteArray.size]
    · simp only [ByteArray.size_append]
      have e1 : (⟨#[40]⟩ : ByteArray).size = 1 := rfl
      omega

theorem toList_data (a : ByteArray) : a.toList = a.data.toList := ByteArray.toList_eq a
theorem eqS (a b : ByteArray) : (a.toList == b.toList) = decide (a = b) := by
  rw [toList_data, toList_data, Bool.eq_iff_iff]
  simp only [beq_iff_eq, decide_eq_true_eq]
  exact ⟨fun h => Go.WideShapes.bytes_inj h, fun h => by rw [h]⟩

end Go.Proofs.YtldbmlojgakieaaGreatDoor

namespace Go.Proofs.YtldbmlojgakieaaGreatDoor

open Go.RowKit Go.Deep

attribute [local go_sem ↓] Go.wp_at_zero Go.wp_at_succ

/-- All lists are of a length that is one. -/
def Lm : F → Prop
  | .nil => True
  | .node _ _ _ k r => len k ≤ 9223372036854775807 ∧ Lm k ∧ Lm r
theorem Lm_kid : ∀ {f : F}, Lm f → ∀ i, i < len f → len (kid f i) ≤ 9223372036854775807 ∧ Lm (kid f i)
  | .nil, _, i, h => by simp [len] at h
  | .node _ _ _ k r, hs, 0, _ => ⟨hs.1, hs.2.1⟩
  | .node _ _ _ k r, hs, i + 1, h => Lm_kid hs.2.2 i (by simp only [len] at h; omega)

/-- Small, as far as it goes. -/
def SmTo (f : F) (k : Nat) : Prop := ∀ j, j < k → len (kid f j) ≤ 1000000000 ∧ Sm (kid f j)
theorem Sm_of : ∀ {f : F}, SmTo f (len f) → Sm f
  | .nil, _ => trivial
  | .node _ _ _ k r, h => ⟨(h 0 (by simp [len])).1, (h 0 (by simp [len])).2, Sm_of fun j hj => h (j + 1) (by simp only [len]; omega)⟩

end Go.Proofs.YtldbmlojgakieaaGreatDoor

namespace Go.Proofs.YtldbmlojgakieaaGreatDoor

open Go.RowKit Go.Deep

attribute [local go_sem ↓] Go.wp_at_zero Go.wp_at_succ

/-- Two lists of values are the same. -/
def eqV : F → F → Bool
  | .nil, .nil => true
  | .node _ _ n k r, .node _ _ n' k' r' => (n == n' && eqV k k') && eqV r r'
  | .nil, .node _ _ _ _ _ => false
  | .node _ _ _ _ _, .nil => false

theorem eqV_refl : ∀ f : F, eqV f f = true
  | .nil => rfl
  | .node _ _ n k r => by simp [eqV, eqV_refl k, eqV_refl r]

theorem eqV_len : ∀ (f g : F), len f ≠ len g → eqV f g = false
  | .nil, .nil, h => by simp [len] at h
  | .node _ _ _ k r, .node _ _ _ k' r', h => by
    have : eqV r r' = false := eqV_len r r' (by simp only [len] at h; omega)
    simp [eqV, this]
  | .nil, .node _ _ _ _ _, _ => rfl
  | .node _ _ _ _ _, .nil, _ => rfl

theorem eqV_bad : ∀ (f g : F) (i : Nat), i < len f → (num f i == num g i && eqV (kid f i) (kid g i)) = false → eqV f g = false
  | .nil, _, i, h, _ => by simp [len] at h
  | .node _ _ _ k r, .nil, _, _, _ => rfl
  | .node _ _ _ k r, .node _ _ _ k' r', 0, _, h => by simp only [kid, num] at h; simp only [eqV, h]; rfl
  | .node _ _ _ k r, .node _ _ _ k' r', i + 1, hi, h => by
    have := eqV_bad r r' i (by simp only [len] at hi; omega) h
    simp [eqV, this]

theorem eqV_good : ∀ (f g : F), len f = len g → (∀ i, i < len f → (num f i == num g i && eqV (kid f i) (kid g i)) = true) → eqV f g = true
  | .nil, .nil, _, _ => rfl
  | .node _ _ n k r, .node _ _ n' k' r', hl, h => by
    have h0 : (n == n' && eqV k k') = true := h 0 (by simp [len])
    have h1 : eqV r r' = true := eqV_good r r' (by simp only [len] at hl; omega) fun i hi => h (i + 1) (by simp only [len]; omega)
    simp only [eqV, h0, h1]; rfl
  | .nil, .node _ _ _ _ _, hl, _ => by simp [len] at hl
  | .node _ _ _ _ _, .nil, hl, _ => by simp [len] at hl

set_option maxRecDepth 100000 in
set_option maxHeartbeats 2000000 in
theorem szVal_both : ∀ (d : Nat), (∀ (f : F) (a : Option Addr) (c lo : Nat) (l : Int) (w : World), dep f < d → len f ≤ 9223372036854775807 → Lm f → 0 ≤ l → l ≤ 1048576 → VA w lo f a →
      Calls Tryz.prog 6 #[.slice a (len f) c, .int .i64 l] w fun e w' => ∃ x : Int, e = .returned (.int .i64 x) ∧ -1 ≤ x ∧ x ≤ l ∧ (0 ≤ x → len f ≤ 1048576 ∧ Sm f) ∧ Ex w w') ∧
    (∀ (n : Int) (f : F) (a : Option Addr) (c lo : Nat) (l : Int) (w : World), dep f < d → len f ≤ 9223372036854775807 → Lm f → 0 ≤ l → l ≤ 1048576 → VA w lo f a →
      Calls Tryz.prog 19 #[.agg #[.int .i64 n, .slice a (len f) c], .int .i64 l] w fun e w' => ∃ x : Int, e = .returned (.int .i64 x) ∧ -1 ≤ x ∧ x ≤ l ∧ (0 ≤ x → len f ≤ 1048576 ∧ Sm f) ∧ Ex w w') := by
  intro d
  induction d with
  | zero => exact ⟨fun f a c lo l w hd => by omega, fun n f a c lo l w hd => by omega⟩
  | succ d ih =>
    have hS : ∀ (f : F) (a : Option Addr) (c lo : Nat) (l : Int) (w : World), dep f < d + 1 → len f ≤ 9223372036854775807 → Lm f → 0 ≤ l → l ≤ 1048576 → VA w lo f a →
      Calls Tryz.prog 6 #[.slice a (len f) c, .int .i64 l] w fun e w' => ∃ x : Int, e = .returned (.int .i64 x) ∧ -1 ≤ x ∧ x ≤ l ∧ (0 ≤ x → len f ≤ 1048576 ∧ Sm f) ∧ Ex w w' := by
      intro f a c lo l w hd hlen hlm hl0 hl1 hT
      have T : Hid (VA w lo f a) := hT
      have I : Hid _ := ih.2
      have LM : Hid (Lm f) := hlm
      clear hT hlm
      by_cases hneg : l - len f < 0
      · go_enter Tryz.func6, Tryz.ntmps6
        go_wp2_with fail
        go_ret
        exact ⟨-1, rfl, by omega, by omega, fun h => by omega, Ex.refl _⟩
      · go_enter Tryz.func6, Tryz.ntmps6
        go_wp2_with fail
        go_loopw [1, 5] (fun lv i wr => ∃ (k : Nat) (x : Int), k ≤ len f ∧ i = .int .i64 k ∧ lv = .int .i64 x ∧ 0 ≤ x ∧ x ≤ l ∧ SmTo f k ∧ Ex w wr) (fun _ i _ => len f - (intOf i).toNat)
        case atStart => exact ⟨0, l - len f, Nat.zero_le _, rfl, rfl, by omega, by omega, fun j hj => by omega, Ex.refl _⟩
        case round =>
          obtain ⟨k, x, hk, rfl, rfl, hx0, hxl, hsm, hx⟩ := hrel
          have ST : Hid (SmTo f k) := hsm
          clear hsm
          by_cases hlt : k < len f
          · obtain ⟨b, o, rfl, hlo, hbs, hkk⟩ := VA_at (VA_below T.out hx) (by omega)
            obtain ⟨hn1, a1, k1, hc1, ht1⟩ := hkk k hlt
            have T1 : Hid (VA wr lo (kid f k) a1) := ht1
            clear hkk ht1
            go_wp2_with fail
            refine (I.out (num f k) (kid f k) a1 k1 lo x _ (by have := dep_kid f k hlt; omega) (Lm_kid LM.out k hlt).1 (Lm_kid LM.out k hlt).2 hx0 (by omega) T1.out).mono ?_
            rintro e w1 ⟨y, rfl, hy0, hy1, hysm, hb1⟩
            have YS : Hid (0 ≤ y → len (kid f k) ≤ 1048576 ∧ Sm (kid f k)) := hysm
            clear hysm
            by_cases hy : y < 0
            · go_wp2_with fail
              go_ret
              exact ⟨-1, rfl, by omega, by omega, fun h => by omega, hx.trans hb1⟩
            · go_wp2_with fail
              go_roundw
              case rel => exact ⟨k + 1, y, by omega, by go_num, rfl, by omega, by omega, fun j hj => by
                by_cases hj' : j < k
                · exact ST.out j hj'
                · rw [show j = k by omega]; have := YS.out (by omega); exact ⟨by omega, this.2⟩, hx.trans hb1⟩
              case measure => simp [intOf]; omega
          · go_wp2_with fail
            go_ret
            exact ⟨x, rfl, by omega, hxl, fun _ => ⟨by omega, Sm_of (by rw [show len f = k by omega]; exact ST.out)⟩, hx⟩
    refine ⟨hS, ?_⟩
    intro n f a c lo l w hd hlen hlm hl0 hl1 hT
    have HS : Hid _ := hS
    clear hS ih
    go_enter Tryz.func19, Tryz.ntmps19
    go_wp2_with fail
    refine (HS.out f a c lo l _ hd hlen hlm hl0 hl1 (VA_below hT (Ex.new _ _))).mono ?_
    rintro e w1 ⟨y, rfl, hy0, hy1, hysm, hb1⟩
    have YS : Hid (0 ≤ y → len f ≤ 1048576 ∧ Sm f) := hysm
    clear hysm
    by_cases hy : y < 0
    · go_wp2_with fail
      go_ret
      exact ⟨-1, rfl, by omega, by omega, fun h => by omega, (Ex.new _ _).trans hb1⟩
    · go_wp2_with fail
      go_ret
      exact ⟨y, rfl, by omega, by omega, YS.out, (Ex.new _ _).trans hb1⟩

set_option maxRecDepth 100000 in
set_option maxHeartbeats 2000000 in
theorem eqVal_both : ∀ (d : Nat), (∀ (f g : F) (a a' : Option Addr) (c c' lo lo' : Nat) (w : World), dep f < d → len f ≤ 1000000000 → Sm f → VA w lo f a → VA w lo' g a' →
      Calls Tryz.prog 11 #[.slice a (len f) c, .slice a' (len g) c'] w fun e w' => e = .returned (.bool (eqV f g)) ∧ Ex w w') ∧
    (∀ (n m : Int) (f g : F) (a a' : Option Addr) (c c' lo lo' : Nat) (w : World), dep f < d → len f ≤ 1000000000 → Sm f → VA w lo f a → VA w lo' g a' →
      Calls Tryz.prog 31 #[.agg #[.int .i64 n, .slice a (len f) c], .agg #[.int .i64 m, .slice a' (len g) c']] w fun e w' => e = .returned (.bool (n == m && eqV f g)) ∧ Ex w w') := by
  intro d
  induction d with
  | zero => exact ⟨fun f g a a' c c' lo lo' w hd => by omega, fun n m f g a a' c c' lo lo' w hd => by omega⟩
  | succ d ih =>
    have hS : ∀ (f g : F) (a a' : Option Addr) (c c' lo lo' : Nat) (w : World), dep f < d + 1 → len f ≤ 1000000000 → Sm f → VA w lo f a → VA w lo' g a' →
      Calls Tryz.prog 11 #[.slice a (len f) c, .slice a' (len g) c'] w fun e w' => e = .returned (.bool (eqV f g)) ∧ Ex w w' := by
      intro f g a a' c c' lo lo' w hd hl hs hT hT'
      have T : Hid (VA w lo f a) := hT
      have T' : Hid (VA w lo' g a') := hT'
      have I : Hid _ := ih.2
      have SS : Hid (Sm f) := hs
      clear hT hT' ih hs
      by_cases hlen : len f = len g
      · have e0 : ((len f : Int) != (len g : Int)) = false := by simp [hlen]
        have hle : len f ≤ len g := by omega
        have hge : len g ≤ len f := by omega
        have HL : Hid (len f = len g) := hlen
        clear hlen
        go_enter Tryz.func11, Tryz.ntmps11
        go_wp2_with fail
        go_loopw [5] (fun i wr => ∃ k : Nat, k ≤ len f ∧ i = .int .i64 k ∧ Ex w wr ∧ ∀ j, j < k → (num f j == num g j && eqV (kid f j) (kid g j)) = true) (fun i _ => len f - (intOf i).toNat)
        case atStart => exact ⟨0, Nat.zero_le _, rfl, Ex.refl _, fun j hj => by omega⟩
        case round =>
          obtain ⟨k, hk, rfl, hx, hfit⟩ := hrel
          have FT : Hid (∀ j, j < k → (num f j == num g j && eqV (kid f j) (kid g j)) = true) := hfit
          clear hfit
          by_cases hlt : k < len f
          · obtain ⟨b, o, rfl, hlo, hbs, hkk⟩ := VA_at (VA_below T.out hx) (by omega)
            obtain ⟨hn1, a1, c1, hc1, ht1⟩ := hkk k hlt
            obtain ⟨b', o', rfl, hlo', hbs', hkk'⟩ := VA_at (VA_below T'.out hx) (by omega)
            obtain ⟨hn2, a2, c2, hc2, ht2⟩ := hkk' k (by omega)
            have KS : Hid (∀ w', Ex wr w' → (Ex wr w' ∧ w'.cell? ⟨b, o + k * 2, none⟩ = some (.int .i64 (num f k)) ∧ w'.cell? ⟨b, o + k * 2 + 1, none⟩ = some (.slice a1 (len (kid f k)) c1) ∧ w'.cell? ⟨b', o' + k * 2, none⟩ = some (.int .i64 (num g k)) ∧ w'.cell? ⟨b', o' + k * 2 + 1, none⟩ = some (.slice a2 (len (kid g k)) c2))) := fun w' h => ⟨h, Ex.at h hn1, Ex.at h hc1, Ex.at h hn2, Ex.at h hc2⟩
            have hI : Hid (∀ w', Ex wr w' → Calls Tryz.prog 31 #[.agg #[.int .i64 (num f k), .slice a1 (len (kid f k)) c1], .agg #[.int .i64 (num g k), .slice a2 (len (kid g k)) c2]] w' fun e w'' => e = .returned (.bool (num f k == num g k && eqV (kid f k) (kid g k))) ∧ Ex w' w'') := fun w' h =>
              I.out (num f k) (num g k) (kid f k) (kid g k) a1 a2 c1 c2 lo lo' w' (by have := dep_kid f k hlt; omega) (Sm_kid SS.out k hlt).1 (Sm_kid SS.out k hlt).2 (VA_below ht1 h) (VA_below ht2 h)
            have i0 : (0 : Int) ≤ (k : Int) := by omega
            have i1 : (k : Int) < (len f : Int) := by omega
            have i2 : (k : Int) < (len g : Int) := by omega
            obtain ⟨z, hzz⟩ : ∃ z, z = (num f k == num g k && eqV (kid f k) (kid g k)) := ⟨_, rfl⟩
            rw [← hzz] at hI
            have HZ : Hid (z = (num f k == num g k && eqV (kid f k) (kid g k))) := hzz
            clear hkk hkk' ht1 ht2 hzz
            go_wp2_with fail
            go_region_held3 (fun w' => Ex wr w' ∧ w'.cell? ⟨b, o + k * 2, none⟩ = some (.int .i64 (num f k)) ∧ w'.cell? ⟨b, o + k * 2 + 1, none⟩ = some (.slice a1 (len (kid f k)) c1) ∧ w'.cell? ⟨b', o' + k * 2, none⟩ = some (.int .i64 (num g k)) ∧ w'.cell? ⟨b', o' + k * 2 + 1, none⟩ = some (.slice a2 (len (kid g k)) c2)) ((refine KS.out _ ?_; first | exact (Ex.refl _).drew | exact Ex.trans (And.left ‹Ex _ _ ∧ _›) ‹Ex _ _›)) (first | (go_at_call 31; refine (hI.out _ (And.left ‹Ex _ _ ∧ _›)).mono ?_; rintro e w7 ⟨rfl, hb7⟩))
            have hx7 : Ex wr w7 := And.left ‹Ex wr w7 ∧ _›
            cases z
            · go_wp2_with fail
              go_ret
              exact ⟨ret_b (eqV_bad _ _ k hlt HZ.out.symm).symm, hx.trans hx7⟩
            · go_wp2_with fail
              go_roundw
              case rel => exact ⟨k + 1, by omega, by go_num, hx.trans hx7, fun j hj => by
                by_cases hj' : j < k
                · exact FT.out j hj'
                · rw [show j = k by omega]; exact HZ.out.symm⟩
              case measure => simp [intOf]; omega
          · go_wp2_with fail
            go_ret
            exact ⟨ret_b (eqV_good _ _ HL.out fun j hj => FT.out j (by omega)).symm, hx⟩
      · have e0 : ((len f : Int) != (len g : Int)) = true := by simp; omega
        go_enter Tryz.func11, Tryz.ntmps11
        go_wp2_with fail
        go_ret
        exact ⟨ret_b (eqV_len _ _ hlen).symm, Ex.refl _⟩
    refine ⟨hS, ?_⟩
    intro n m f g a a' c c' lo lo' w hd hl hs hT hT'
    have HS : Hid _ := hS
    clear hS ih
    by_cases hn : n = m
    · have R : Hid ((n == m && eqV f g) = eqV f g) := by show _ = _; simp [hn]
      have e0 : (n != m) = false := by simp [hn]
      clear hn
      go_enter Tryz.func31, Tryz.ntmps31
      go_wp2_with fail
      refine (HS.out f g a a' c c' lo lo' _ hd hl hs (VA_below hT ((Ex.new _ _).alloc _)) (VA_below hT' ((Ex.new _ _).alloc _))).mono ?_
      rintro e w1 ⟨rfl, hb1⟩
      generalize hfk : eqV f g = z
      cases z
      · go_wp2_with fail
        go_ret
        exact ⟨ret_b (by rw [R.out, hfk]), ((Ex.new _ _).alloc _).trans hb1⟩
      · go_wp2_with fail
        go_ret
        exact ⟨ret_b (by rw [R.out, hfk]), ((Ex.new _ _).alloc _).trans hb1⟩
    · have R : Hid ((n == m && eqV f g) = false) := by show _ = _; simp [hn]
      have e0 : (n != m) = true := by simp [hn]
      go_enter Tryz.func31, Tryz.ntmps31
      go_wp2_with fail
      go_ret
      exact ⟨ret_b R.out.symm, (Ex.new _ _).alloc _⟩

end Go.Proofs.YtldbmlojgakieaaGreatDoor

namespace Go.Proofs.YtldbmlojgakieaaGreatDoor

open Go.RowKit Go.Deep

theorem vType_form {r : Nat} {n : Int} {f u : F} (h : vType (r + 1) n f = some u) : (len f = 0 ∧ u = .nil) ∨ (len f = 2 ∧ n = 0 ∧ ∃ a b, u = two 0 a 0 b ∧ vType r (num f 0) (kid f 0) = some a ∧ vType r (num f 1) (kid f 1) = some b) := by
  obtain h0 | ⟨h2, hn, a, b, ha, hb⟩ := vType_some h
  · rw [vType_num h0] at h
    split at h
    · cases h; exact Or.inl ⟨h0, rfl⟩
    · cases h
  · rw [vType_two h2 hn, ha, hb] at h
    cases h
    exact Or.inr ⟨h2, hn, a, b, rfl, ha, hb⟩

theorem vType_canon : ∀ (r s : Nat) (n m : Int) (f g u t : F), vType r n f = some u → vType s m g = some t → eqT u t = true → u = t
  | 0, s, n, m, f, g, u, t, h, _, _ => by simp [vType] at h
  | r + 1, 0, n, m, f, g, u, t, _, h, _ => by simp [vType] at h
  | r + 1, s + 1, n, m, f, g, u, t, h, h', he => by
    obtain ⟨hl, hk⟩ := eqT_kid he
    rcases vType_form h with ⟨_, rfl⟩ | ⟨_, _, a, b, rfl, ha, hb⟩ <;> rcases vType_form h' with ⟨_, rfl⟩ | ⟨_, _, a', b', rfl, ha', hb'⟩
    · rfl
    · simp [len, two] at hl
    · simp [len, two] at hl
    · have e0 := hk 0 (by rw [len_two]; omega)
      have e1 := hk 1 (by rw [len_two]; omega)
      rw [kid_two0, kid_two0] at e0
      rw [kid_two1, kid_two1] at e1
      rw [vType_canon r s _ _ _ _ a a' ha ha' e0, vType_canon r s _ _ _ _ b b' hb hb' e1]

theorem vType_low : ∀ (r s : Nat) (n : Int) (f u : F), vType r n f = some u → fits s u = true → vType s n f = some u
  | 0, s, n, f, u, h, _ => by simp [vType] at h
  | r + 1, 0, n, f, u, _, h => by simp [fits] at h
  | r + 1, s + 1, n, f, u, h, hf => by
    rcases vType_form h with ⟨h0, rfl⟩ | ⟨h2, hn, a, b, rfl, ha, hb⟩
    · rw [vType_num h0] at h ⊢; exact h
    · rw [fits_two rfl, Bool.and_eq_true, kid_two0, kid_two1] at hf
      rw [vType_two h2 hn, vType_low r s _ _ a ha hf.1, vType_low r s _ _ b hb hf.2]; rfl

theorem two_type {r : Nat} {x y : Int} {a b u v : F} (ha : vType r x a = some u) (hb : vType r y b = some v) : vType (r + 1) 0 (two x a y b) = some (two 0 u 0 v) := by
  rw [vType_two rfl rfl, num_two0, num_two1, kid_two0, kid_two1, ha, hb]; rfl

theorem i01 {i : Int} {a b : F} (h : 0 ≤ i ∧ i < len (two 0 a 0 b)) : i = 0 ∨ i = 1 := by rw [len_two] at h; omega

theorem putV_type : ∀ (p : List Int) (r : Nat) (n : Int) (f u v : F) (m : Int) (g : F), vType r n f = some u → partF u p = some v → vType 4 m g = some v → vType r (putV p n f m g).1 (putV p n f m g).2 = some u
  | [], r, n, f, u, v, m, g, h, hv, hg => by cases hv; exact vType_low 4 r m g u hg (vType_fits r n f u h)
  | i :: q, 0, n, f, u, v, m, g, h, _, _ => by simp [vType] at h
  | i :: q, r + 1, n, f, u, v, m, g, h, hv, hg => by
    obtain ⟨hi, hv'⟩ := partF_cons hv
    rcases vType_form h with ⟨_, rfl⟩ | ⟨h2, hn, a, b, rfl, ha, hb⟩
    · simp [len] at hi; omega
    · rcases i01 hi with rfl | rfl
      · simp only [putV, if_true]
        exact two_type (putV_type q r _ _ a v m g ha hv' hg) hb
      · simp only [putV, if_neg (show ¬ (1 : Int) = 0 by omega)]
        exact two_type ha (putV_type q r _ _ b v m g hb hv' hg)

theorem putV_part : ∀ (p : List Int) (r : Nat) (n : Int) (f u v : F) (m : Int) (g : F), vType r n f = some u → partF u p = some v → partV (putV p n f m g).1 (putV p n f m g).2 p = some (m, g)
  | [], r, n, f, u, v, m, g, h, hv => rfl
  | i :: q, 0, n, f, u, v, m, g, h, _ => by simp [vType] at h
  | i :: q, r + 1, n, f, u, v, m, g, h, hv => by
    obtain ⟨hi, hv'⟩ := partF_cons hv
    rcases vType_form h with ⟨_, rfl⟩ | ⟨h2, hn, a, b, rfl, ha, hb⟩
    · simp [len] at hi; omega
    · rcases i01 hi with rfl | rfl
      · have := putV_part q r _ _ a v m g ha hv'
        simp only [putV, if_true, partV, len_two]
        exact this
      · have := putV_part q r _ _ b v m g hb hv'
        simp only [putV, if_neg (show ¬ (1 : Int) = 0 by omega), partV, len_two]
        exact this

theorem putV_twice : ∀ (p : List Int) (n : Int) (f : F) (m m' : Int) (g g' : F), putV p (putV p n f m g).1 (putV p n f m g).2 m' g' = putV p n f m' g'
  | [], n, f, m, m', g, g' => rfl
  | i :: q, n, f, m, m', g, g' => by
    by_cases hi : i = 0
    · have := putV_twice q (num f 0) (kid f 0) m m' g g'
      simp only [putV, if_pos hi, num_two0, num_two1, kid_two0, kid_two1, this]
    · have := putV_twice q (num f 1) (kid f 1) m m' g g'
      simp only [putV, if_neg hi, num_two0, num_two1, kid_two0, kid_two1, this]

theorem eqV_two {x y : Int} {a b f : F} (h2 : len f = 2) (e0 : x = num f 0 ∧ eqV a (kid f 0) = true) (e1 : y = num f 1 ∧ eqV b (kid f 1) = true) : eqV (two x a y b) f = true := by
  refine eqV_good _ _ (by rw [len_two, h2]) fun i hi => ?_
  rw [len_two] at hi
  have : i = 0 ∨ i = 1 := by omega
  rcases this with rfl | rfl
  · rw [num_two0, kid_two0, e0.2, e0.1]; simp
  · rw [num_two1, kid_two1, e1.2, e1.1]; simp

theorem putV_same : ∀ (p : List Int) (r : Nat) (n : Int) (f u : F) (m : Int) (g : F), vType r n f = some u → partV n f p = some (m, g) → (putV p n f m g).1 = n ∧ eqV (putV p n f m g).2 f = true
  | [], r, n, f, u, m, g, h, hv => by cases hv; exact ⟨rfl, eqV_refl _⟩
  | i :: q, 0, n, f, u, m, g, h, _ => by simp [vType] at h
  | i :: q, r + 1, n, f, u, m, g, h, hv => by
    simp only [partV] at hv
    split at hv
    · rename_i hi
      rcases vType_form h with ⟨h0, _⟩ | ⟨h2, hn, a, b, rfl, ha, hb⟩
      · omega
      · have : i = 0 ∨ i = 1 := by omega
        subst hn
        rcases this with rfl | rfl
        · have := putV_same q r _ _ a m g ha hv
          simp only [putV, if_true]
          exact ⟨by trivial, eqV_two h2 this ⟨rfl, eqV_refl _⟩⟩
        · have := putV_same q r _ _ b m g hb hv
          simp only [putV, if_neg (show ¬ (1 : Int) = 0 by omega)]
          exact ⟨by trivial, eqV_two h2 ⟨rfl, eqV_refl _⟩ this⟩
    · cases hv

theorem put_ok {n : Int} {f : F} {p : List Int} {m : Int} {g : F} (h : putOk n f p m g = true) : ∃ u v, vType 4 n f = some u ∧ partF u p = some v ∧ vType 4 m g = some v := by
  cases hf : vType 4 n f with
  | none => simp [putOk, hf] at h
  | some u =>
    cases hp : partF u p with
    | none => simp [putOk, hf, hp] at h
    | some v =>
      rw [put_yes hf hp] at h
      have hv : fits 4 v = true := by
        unfold valOk at h; rw [Bool.and_eq_true] at h; exact h.1
      cases hg : vType 4 m g with
      | none => simp [valOk, hg, ofType] at h
      | some t =>
        have he : eqT v t = true := by
          unfold valOk at h; rw [Bool.and_eq_true, hg] at h; exact h.2
        -- what is there is of that type, too
        have : ∃ m0 g0, partV n f p = some (m0, g0) := by
          cases hq : partV n f p with
          | none => rw [(partV_type p 4 n f u hf).2 hq] at hp; cases hp
          | some mg => exact ⟨mg.1, mg.2, rfl⟩
        obtain ⟨m0, g0, hq⟩ := this
        obtain ⟨v', h1, h2⟩ := (partV_type p 4 n f u hf).1 m0 g0 hq
        rw [hp] at h1
        cases h1
        exact ⟨u, v, rfl, hp, by rw [vType_canon 4 4 m0 m g0 g v t h2 hg he]⟩

theorem put_of {n : Int} {f u v : F} {p : List Int} {m : Int} {g : F} (h : vType 4 n f = some u) (hp : partF u p = some v) (hg : vType 4 m g = some v) : putOk n f p m g = true ∧ valPutR n f p m g = (putV p n f m g, true) := by
  have : putOk n f p m g = true := by
    rw [put_yes h hp]
    simp [valOk, vType_fits 4 m g v hg, hg, ofType, eqT_refl]
  exact ⟨this, by simp [valPutR, this]⟩

theorem put_sm (n : Int) (f : F) (p : List Int) (m : Int) (g : F) : len (valPutR n f p m g).1.2 ≤ 1000000000 ∧ Sm (valPutR n f p m g).1.2 := by
  cases h : putOk n f p m g with
  | false => simp [valPutR, h, len, Sm]
  | true =>
    obtain ⟨u, v, hu, hv, hg⟩ := put_ok h
    have := vType_sm 4 _ _ _ (putV_type p 4 n f u v m g hu hv hg)
    simp only [valPutR, h, if_true]
    exact ⟨by omega, this.2.1⟩

/-- What was put is there. -/
theorem put_there {n : Int} {f : F} {p : List Int} {m : Int} {g : F} (h : putOk n f p m g = true) : valAtR (putV p n f m g).1 (putV p n f m g).2 p = ((m, g), true) := by
  obtain ⟨u, v, hu, hv, hg⟩ := put_ok h
  exact valAt_of (putV_type p 4 n f u v m g hu hv hg) (putV_part p 4 n f u v m g hu hv)

theorem put_at {n : Int} {f : F} {p : List Int} {m : Int} {g : F} (h : putOk n f p m g = true) : ∃ m0 g0, valAtR n f p = ((m0, g0), true) ∧ partV n f p = some (m0, g0) ∧
    valPutR (putV p n f m g).1 (putV p n f m g).2 p m0 g0 = (putV p n f m0 g0, true) ∧ valPutR (putV p n f m0 g0).1 (putV p n f m0 g0).2 p m g = (putV p n f m g, true) ∧ (putV p n f m0 g0).1 = n ∧ eqV (putV p n f m0 g0).2 f = true := by
  obtain ⟨u, v, hu, hv, hg⟩ := put_ok h
  have : ∃ m0 g0, partV n f p = some (m0, g0) := by
    cases hq : partV n f p with
    | none => rw [(partV_type p 4 n f u hu).2 hq] at hv; cases hv
    | some mg => exact ⟨mg.1, mg.2, rfl⟩
  obtain ⟨m0, g0, hq⟩ := this
  obtain ⟨v', h1, h2⟩ := (partV_type p 4 n f u hu).1 m0 g0 hq
  rw [hv] at h1
  cases h1
  have ht := putV_type p 4 n f u v m g hu hv hg
  have ht0 := putV_type p 4 n f u v m0 g0 hu hv h2
  have hs := putV_same p 4 n f u m0 g0 hu hq
  refine ⟨m0, g0, valAt_of hu hq, hq, ?_, ?_, hs.1, hs.2⟩
  · rw [(put_of ht hv h2).2, putV_twice]
  · rw [(put_of ht0 hv hg).2, putV_twice]

/-- To put what was there. -/
theorem put_same {n : Int} {f : F} {p : List Int} (h : (valAtR n f p).2 = true) : ∃ m0 g0, valAtR n f p = ((m0, g0), true) ∧ valPutR n f p m0 g0 = (putV p n f m0 g0, true) ∧ (putV p n f m0 g0).1 = n ∧ eqV (putV p n f m0 g0).2 f = true := by
  obtain ⟨u, m, g, v, hu, hp, hg, hv, he⟩ := valAt_ok h
  have hs := putV_same p 4 n f u m g hu hp
  exact ⟨m, g, he, (put_of hu hv hg).2, hs.1, hs.2⟩

/-- It stays of its type. -/
theorem put_kind {n : Int} {f : F} {p : List Int} {m : Int} {g : F} (h : putOk n f p m g = true) (t : F) : valOk t (putV p n f m g).1 (putV p n f m g).2 = valOk t n f := by
  obtain ⟨u, v, hu, hv, hg⟩ := put_ok h
  unfold valOk
  rw [putV_type p 4 n f u v m g hu hv hg, hu]

theorem partF_len : ∀ (p : List Int) (r : Nat) (u v : F), fits r u = true → partF u p = some v → p.length < r
  | [], 0, u, v, h, _ => by simp [fits] at h
  | [], r + 1, u, v, h, _ => by simp
  | i :: q, 0, u, v, h, _ => by simp [fits] at h
  | i :: q, r + 1, u, v, h, hv => by
    obtain ⟨hi, hv'⟩ := partF_cons hv
    have h2 : len u = 2 := by have := fits_len h; omega
    rw [fits_two h2, Bool.and_eq_true] at h
    have : i.toNat = 0 ∨ i.toNat = 1 := by omega
    rcases this with e | e <;> rw [e] at hv'
    · have := partF_len q r _ v h.1 hv'; simp; omega
    · have := partF_len q r _ v h.2 hv'; simp; omega

/-- By a path that is too long there is nothing. -/
theorem put_none {n : Int} {f : F} {p : List Int} {m : Int} {g : F} (h : 4 ≤ p.length) : valPutR n f p m g = ((0, .nil), false) ∧ valAtR n f p = ((0, .nil), false) := by
  have h1 : (valAtR n f p).2 = false := by
    cases hv : (valAtR n f p).2 with
    | false => rfl
    | true =>
      obtain ⟨u, m, g, v, hu, hp, hg, hv, he⟩ := valAt_ok hv
      have := partF_len p 4 u v (vType_fits 4 n f u hu) hv
      omega
  refine ⟨by simp [valPutR, put_no h1], ?_⟩
  unfold valAtR at h1 ⊢
  split
  · rename_i m g e; rw [e] at h1; cases h1
  · rfl

theorem partV_other : ∀ (p : List Int) (k r : Nat) (n : Int) (f u v : F) (m : Int) (g : F), k < p.length → vType r n f = some u → partF u p = some v → ∃ x y, partV n f (p.take k ++ [1 - p.getD k 0]) = some (x, y) ∧ partV (putV p n f m g).1 (putV p n f m g).2 (p.take k ++ [1 - p.getD k 0]) = some (x, y)
  | [], k, r, n, f, u, v, m, g, hk, _, _ => by simp at hk
  | i :: q, k, 0, n, f, u, v, m, g, _, h, _ => by simp [vType] at h
  | i :: q, 0, r + 1, n, f, u, v, m, g, hk, h, hv => by
    obtain ⟨hi, hv'⟩ := partF_cons hv
    rcases vType_form h with ⟨_, rfl⟩ | ⟨h2, hn, a, b, rfl, ha, hb⟩
    · simp [len] at hi; omega
    · rcases i01 hi with rfl | rfl
      · refine ⟨num f 1, kid f 1, ?_, ?_⟩
        · simp [partV, h2]
        · simp [partV, putV, len_two, num_two1, kid_two1]
      · refine ⟨num f 0, kid f 0, ?_, ?_⟩
        · simp [partV, h2]
        · simp [partV, putV, len_two, num_two0, kid_two0]
  | i :: q, k + 1, r + 1, n, f, u, v, m, g, hk, h, hv => by
    obtain ⟨hi, hv'⟩ := partF_cons hv
    have hk' : k < q.length := by simpa using hk
    rcases vType_form h with ⟨_, rfl⟩ | ⟨h2, hn, a, b, rfl, ha, hb⟩
    · simp [len] at hi; omega
    · rcases i01 hi with rfl | rfl
      · obtain ⟨x, y, h3, h4⟩ := partV_other q k r _ _ a v m g hk' ha hv'
        refine ⟨x, y, ?_, ?_⟩
        · simp only [List.take_succ_cons, List.cons_append, List.getD_cons_succ, partV, h2]
          exact h3
        · simp only [List.take_succ_cons, List.cons_append, List.getD_cons_succ, partV, putV, if_true, len_two]
          exact h4
      · obtain ⟨x, y, h3, h4⟩ := partV_other q k r _ _ b v m g hk' hb hv'
        refine ⟨x, y, ?_, ?_⟩
        · simp only [List.take_succ_cons, List.cons_append, List.getD_cons_succ, partV, h2]
          exact h3
        · simp only [List.take_succ_cons, List.cons_append, List.getD_cons_succ, partV, putV, if_neg (show ¬ (1 : Int) = 0 by omega), len_two]
          exact h4

/-- A part that does not meet it is as it was. -/
theorem put_other {n : Int} {f : F} {p : List Int} {m : Int} {g : F} (h : putOk n f p m g = true) (k : Nat) (hk : k < p.length) : ∃ x y, valAtR n f (p.take k ++ [1 - p.getD k 0]) = ((x, y), true) ∧ valAtR (putV p n f m g).1 (putV p n f m g).2 (p.take k ++ [1 - p.getD k 0]) = ((x, y), true) ∧ len y ≤ 1000000000 ∧ Sm y := by
  obtain ⟨u, v, hu, hv, hg⟩ := put_ok h
  obtain ⟨x, y, h1, h2⟩ := partV_other p k 4 n f u v m g hk hu hv
  have hs := valAt_sm n f (p.take k ++ [1 - p.getD k 0])
  rw [valAt_of hu h1] at hs
  exact ⟨x, y, valAt_of hu h1, valAt_of (putV_type p 4 n f u v m g hu hv hg) h2, hs.1, hs.2.1⟩

end Go.Proofs.YtldbmlojgakieaaGreatDoor

namespace Go.Proofs.YtldbmlojgakieaaGreatDoor

open Go.RowKit Go.Deep

theorem tok_shape {k n : Int} {s : ByteArray} {p : List Int} {l : Nat} (h : tokB k n s p l = true) : (k = 1 → 0 ≤ n ∧ n ≤ 9999) ∧ l ≤ 2 ∧ (k = 1 ∨ k = 2 ∨ k = 6 ∨ (k = 7 ∧ l = 1) ∨ (k ≠ 7 ∧ l = 2)) := by
  by_cases h1 : k = 1
  · subst h1
    simp only [tokB_1, Bool.and_eq_true, decide_eq_true_eq] at h
    exact ⟨fun _ => ⟨h.2.2.2.1, h.2.2.2.2⟩, by omega, Or.inl rfl⟩
  by_cases h2 : k = 2
  · subst h2
    simp only [tokB_2, Bool.and_eq_true, decide_eq_true_eq] at h
    exact ⟨fun e => absurd e h1, by omega, Or.inr (Or.inl rfl)⟩
  by_cases h3 : k = 3 ∨ k = 4 ∨ k = 5 ∨ k = 6
  · rw [tokB_3 h3] at h
    simp only [Bool.and_eq_true, decide_eq_true_eq] at h
    exact ⟨fun e => absurd e h1, by omega, by omega⟩
  by_cases h7 : k = 7
  · subst h7
    simp only [tokB_7, Bool.and_eq_true, decide_eq_true_eq] at h
    exact ⟨fun e => absurd e h1, by omega, by omega⟩
  by_cases h8 : k = 8
  · subst h8
    simp only [tokB_8, Bool.and_eq_true, decide_eq_true_eq] at h
    exact ⟨fun e => absurd e h1, by omega, by omega⟩
  · rw [tokB_o (by omega)] at h; cases h

theorem kid_tok {ns : List ByteArray} {d : Nat} {f : TM} (h : kidsB ns (d + 1) f = true) {j : Nat} (hj : j < tlen f) : tokB (tkind f j) (tnum f j) (tname f j) (tpath f j) (tlen (tkid f j)) = true ∧ kidsB ns d (tkid f j) = true ∧ (tkind f j = 2 → hasB ns (tname f j) = true) := by
  simp only [kidsB, List.all_eq_true] at h
  have := h j (List.mem_range.2 hj)
  rw [kidB, termB_tok] at this
  simp only [Bool.and_eq_true] at this
  exact ⟨this.1, this.2.2, fun e => by have := this.2.1; rw [decide_eq_true e] at this; simpa using this⟩
theorem kids_zero {ns : List ByteArray} {f : TM} (h : kidsB ns 0 f = true) : tlen f = 0 := by
  simp only [kidsB, List.all_eq_true] at h
  by_cases h0 : tlen f = 0
  · exact h0
  · have := h 0 (List.mem_range.2 (by omega))
    cases this
end Go.Proofs.YtldbmlojgakieaaGreatDoor

namespace Go.Proofs.YtldbmlojgakieaaGreatDoor

open Go.RowKit Go.Deep Go.Maps Go.WideMaps

theorem ty_int {n : Int} (h : 0 ≤ n ∧ n ≤ 9999) : tyV (n, .nil) := by
  show (vType 4 n .nil).isSome = true
  rw [vType_num rfl, if_pos h]; rfl
theorem one_ty {L : ByteArray → Int × F} {k n : Int} {s : ByteArray} {p : List Int} {l : F} {v : Int × F} (hL : ∀ s, tyV (L s)) (hk : k = 1 → 0 ≤ n ∧ n ≤ 9999) (h : oneV L k n s p (some l) = some v) : tyV v := by
  simp only [oneV, opV] at h
  split at h
  · cases h; rename_i e; exact ty_int (hk e)
  split at h
  · cases h; exact hL s
  split at h
  · exact okV_ty h
  split at h
  · unfold mkV at h
    split at h
    · rename_i ht
      obtain ⟨u, m, g, x, _, _, hx, _, e⟩ := valAt_ok ht
      rw [e] at h; cases h
      show (vType 4 m g).isSome = true
      rw [hx]; rfl
    · cases h
  split at h
  · unfold mkV at h
    split at h
    · rename_i ht
      unfold valPutR at ht h
      split at h
      · rename_i hp
        obtain ⟨u, x, h1, h2, h3⟩ := put_ok hp
        cases h
        show (vType 4 _ _).isSome = true
        rw [putV_type _ _ _ _ _ _ _ _ h1 h2 h3]; rfl
      · rename_i hp
        rw [if_neg hp] at ht; cases ht
    · cases h
  · unfold numV at h
    split at h
    · split at h
      · exact okV_ty h
      split at h
      · exact okV_ty h
      · cases h
        refine ty_int ?_
        split <;> omega
    · cases h

theorem ev_ty {L : ByteArray → Int × F} (hL : ∀ s, tyV (L s)) (ns : List ByteArray) : ∀ (d : Nat) (f : TM), kidsB ns d f = true → ∀ l, evL L f = some l → tyL l := by
  intro d
  induction d with
  | zero =>
    intro f h l hl
    have hn := evL_len hl
    rw [kids_zero h] at hn
    exact fun i hi => by omega
  | succ d ih =>
    intro f h l hl
    have key : ∀ j, j ≤ tlen f → ∀ l, evP L f j = some l → tyL l := by
      intro j
      induction j with
      | zero => intro _ l hl; cases hl; exact tyL_nil
      | succ j jh =>
        intro hj l hl
        rw [evP] at hl
        cases h1 : evP L f j with
        | none => rw [h1] at hl; cases hl
        | some l' =>
          rw [h1] at hl
          cases h2 : evAt L f j with
          | none => rw [h2] at hl; cases hl
          | some v =>
            rw [h2] at hl; cases hl
            obtain ⟨t1, t2, _⟩ := kid_tok h (j := j) (by omega)
            refine tyL_snoc (jh (by omega) l' h1) ?_
            unfold evAt at h2
            cases h3 : evL L (tkid f j) with
            | none => rw [h3] at h2; cases h2
            | some q =>
              rw [h3] at h2
              exact one_ty hL (tok_shape t1).1 h2
    exact key (tlen f) (Nat.le_refl _) l (by rw [evP_all]; exact hl)

theorem nterms_any (eb : Addr) (S : Nat → Prop) (L : ByteArray → Int × F) (hL : ∀ s, tyV (L s)) (la : Option Addr) (ll lc mb mn : Nat) (ns : List ByteArray) : ∀ (d : Nat) (f : TM) (a : Option Addr) (c : Nat) (w : World), w.cell? ⟨1, 0, none⟩ = some (EV eb) → EM w S mb mn L → (∀ b, S b → b < w.heap.size) →
    MA w 0 f a → tlen f ≤ 100000000 → TSm f → TLm f → kidsB ns d f = true → Calls Tryz.prog 104 #[.agg #[.slice la ll lc, .map (some mb)], .slice a (tlen f) c] w (RowP eb S (evL L f) w) := by
  intro d
  induction d with
  | zero =>
    intro f a c w _ _ hS hM hl _ _ hk
    exact nterms_by eb S L la ll lc mb f a c w hM hl hS fun j hj => by rw [kids_zero hk] at hj; omega
  | succ d ih =>
    intro f a c w hG hE hS hM hl hsm hlm hk
    refine nterms_by eb S L la ll lc mb f a c w hM hl hS fun j hj pa pc a' c' w' hx hp hpc hm => ?_
    obtain ⟨g1, g2, g3⟩ := TSm_kid hsm j hj
    obtain ⟨h1, h2, h3, h4⟩ := TLm_at hlm j hj
    obtain ⟨t1, t2, _⟩ := kid_tok hk hj
    obtain ⟨s1, s2, s3⟩ := tok_shape t1
    have hS' : ∀ b, S b → b < w'.heap.size := fun b hb => Nat.lt_of_lt_of_le (hS b hb) hx.size
    exact nterm_by eb S L la ll lc mb mn _ _ _ _ pa pc _ a' c' w' (hx.at hG) (hE.ex hx) hS' h1 g1 hpc hp s3 (ev_ty hL ns d _ t2) fun w2 hx2 => ih _ a' c' w2 ((hx.trans hx2).at hG) (hE.ex (hx.trans hx2)) (fun b hb => Nat.lt_of_lt_of_le (hS' b hb) hx2.size) (MA_below hm hx2) (by omega) g3 h4 t2

end Go.Proofs.YtldbmlojgakieaaGreatDoor

namespace Go.Proofs.YtldbmlojgakieaaGreatDoor

open Go.RowKit Go.Deep Go.Maps Go.WideMaps

attribute [local go_sem ↓] Go.wp_at_zero Go.wp_at_succ

theorem ty_zero : (vType 4 0 .nil).isSome = true := by rw [vType_num rfl]; rfl
theorem EB.cell {w : World} {B : Nat} {lv nv vv : Value} {bad : Bool} (h : EB w B lv nv vv bad) : w.cell? ⟨B, 0, none⟩ = some lv ∧ w.cell? ⟨B, 1, none⟩ = some nv ∧ w.cell? ⟨B, 2, none⟩ = some vv ∧ w.cell? ⟨B, 3, none⟩ = some (.bool bad) := by
  unfold EB at h
  exact ⟨by simp [World.cell?, h], by simp [World.cell?, h], by simp [World.cell?, h], by simp [World.cell?, h]⟩

set_option maxRecDepth 100000 in
set_option maxHeartbeats 2000000 in
theorem sterm_bad (B : Nat) (S : Nat → Prop) (lv nv vv : Value) (k n : Int) (s : ByteArray) (p : List Int) (pa : Option Addr) (pc : Nat) (f : TM) (a : Option Addr) (c : Nat) (w : World) (hB : EB w B lv nv vv true) :
    Calls Tryz.prog 74 #[.pointer (some ⟨B, 0, none⟩), .agg #[.int .i64 k, .int .i64 n, .string s, .slice pa p.length pc, .slice a (tlen f) c]] w (SpT B S lv nv vv none w) := by
  have N : Hid (Ex w ((w.alloc (.cells #[.int .i64 k, .int .i64 n, .string s, .slice pa p.length pc, .slice a (tlen f) c] 121)).alloc (.cells #[.int .i64 0, .slice none 0 0] 55))) := (Ex.new _ _).alloc _
  have EB0 : Hid (EB w B lv nv vv true) := hB
  obtain ⟨_, _, _, b3⟩ := (hB.ex N.out).cell
  have zb : B < w.heap.size := lt_of_block hB
  clear hB
  go_enter Tryz.func74, Tryz.ntmps74
  go_wp2_with fail
  refine bodyPost_ret (v := .agg #[.int .i64 0, .slice none 0 0]) (by simp [results, Tryz.results74, go_sem]) rfl ?_
  exact ⟨0, .nil, none, 0, rfl, (fun _ hv => by cases hv), ty_zero, Or.inl rfl, ((Fr.refl _ _).alloc _).alloc _, EB0.out.ex ((Ex.new _ _).alloc _)⟩

set_option maxRecDepth 100000 in
set_option maxHeartbeats 2000000 in
theorem sterm_num (B : Nat) (S : Nat → Prop) (lv nv vv : Value) (n : Int) (hn : 0 ≤ n ∧ n ≤ 9999) (s : ByteArray) (p : List Int) (pa : Option Addr) (pc : Nat) (f : TM) (a : Option Addr) (c : Nat) (w : World) (hB : EB w B lv nv vv false) :
    Calls Tryz.prog 74 #[.pointer (some ⟨B, 0, none⟩), .agg #[.int .i64 1, .int .i64 n, .string s, .slice pa p.length pc, .slice a (tlen f) c]] w (SpT B S lv nv vv (some (n, .nil)) w) := by
  have N : Hid (Ex w ((w.alloc (.cells #[.int .i64 1, .int .i64 n, .string s, .slice pa p.length pc, .slice a (tlen f) c] 121)).alloc (.cells #[.int .i64 0, .slice none 0 0] 55))) := (Ex.new _ _).alloc _
  have EB0 : Hid (EB w B lv nv vv false) := hB
  have TY : Hid ((vType 4 n .nil).isSome = true) := ty_int hn
  obtain ⟨_, _, _, b3⟩ := (hB.ex N.out).cell
  have zb : B < w.heap.size := lt_of_block hB
  clear hB hn
  go_enter Tryz.func74, Tryz.ntmps74
  go_wp2_with fail
  refine bodyPost_ret (v := .agg #[.int .i64 n, .slice none 0 0]) (by simp [results, Tryz.results74, go_sem]) rfl ?_
  exact ⟨n, .nil, none, 0, rfl, (fun _ hv => by cases hv; rfl), TY.out, Or.inl rfl, ((Fr.refl _ _).alloc _).alloc _, EB0.out.ex ((Ex.new _ _).alloc _)⟩

set_option maxRecDepth 100000 in
set_option maxHeartbeats 2000000 in
theorem sterm_name (B : Nat) (T S : Nat → Prop) (lv : Value) (ns : List ByteArray) (vs : F) (na va : Option Addr) (nc vc : Nat) (n : Int) (s : ByteArray) (p : List Int) (pa : Option Addr) (pc : Nat) (f : TM) (a : Option Addr) (c : Nat) (w : World) (hB : EB w B lv (.slice na ns.length nc) (.slice va (len vs) vc) false)
    (hl : ns.length ≤ 1000000000) (hlen : len vs = ns.length) (hS : ∀ b, S b → b < w.heap.size ∧ b ≠ B) (hX : XA w 0 ns na) (hV : VTop w T S vs va) (hty : (vType 4 (getE ns vs s ns.length).1 (getE ns vs s ns.length).2).isSome = true) :
    Calls Tryz.prog 74 #[.pointer (some ⟨B, 0, none⟩), .agg #[.int .i64 2, .int .i64 n, .string s, .slice pa p.length pc, .slice a (tlen f) c]] w (SpT B S lv (.slice na ns.length nc) (.slice va (len vs) vc) (some (getE ns vs s ns.length)) w) := by
  have N : Hid (Ex w ((w.alloc (.cells #[.int .i64 2, .int .i64 n, .string s, .slice pa p.length pc, .slice a (tlen f) c] 121)).alloc (.cells #[.int .i64 0, .slice none 0 0] 55))) := (Ex.new _ _).alloc _
  have EB0 : Hid (EB w B lv (.slice na ns.length nc) (.slice va (len vs) vc) false) := hB
  have TY : Hid _ := hty
  have HS : Hid (∀ b, S b → b < w.heap.size ∧ b ≠ B) := hS
  have GG : Hid (∀ w', Ex w w' → Calls Tryz.prog 92 #[.pointer (some ⟨B, 0, none⟩), .string s] w' (GetP S (getE ns vs s ns.length) w')) := fun w' h => by
    obtain ⟨_, q1, q2, _⟩ := (hB.ex h).cell
    exact get_any B T S ns vs na va nc vc s w' hl hlen (fun b hb => Nat.lt_of_lt_of_le (hS b hb).1 h.size) q1 q2 (XA_below hX h) (VTop_ex hV h)
  obtain ⟨_, _, _, b3⟩ := (hB.ex N.out).cell
  have zb : B < w.heap.size := lt_of_block hB
  clear hB hty hS hX hV hl hlen
  generalize getE ns vs s ns.length = R at *
  obtain ⟨u, g⟩ := R
  go_enter Tryz.func74, Tryz.ntmps74
  go_wp2_with fail
  refine Calls.mono (GG.out _ N.out) ?_
  rintro e w1 ⟨a1, c1, rfl, hV1, hb1⟩
  have V1 : Hid (VS w1 S g a1) := hV1
  have X1 : Hid (Ex w w1) := N.out.trans hb1
  have HR : Hid (w1.heap[w.heap.size + 1]? = some (.cells #[.int .i64 0, .slice none 0 0] 55 (0, 0))) := hb1.blk (heap_alloc_at _ _ (by simp))
  have r0 := two_cell0 HR.out
  have r1 := two_cell1 HR.out
  have r2 := two_free (i := 0) HR.out
  have r3 := two_free (i := 1) HR.out
  clear hV1 hb1 GG
  go_wp2_with fail
  have hb3 := two_set (u' := .int .i64 u) (v' := .slice a1 (len g) c1) HR.out
  have s0 := two_cell0 hb3
  have s1 := two_cell1 hb3
  refine bodyPost_ret (v := .agg #[.int .i64 u, .slice a1 (len g) c1]) (by simp [results, Tryz.results74, go_sem, s0, s1]) rfl ?_
  have XX : Ex w ((w1.setCell ⟨w.heap.size + 1, 0, none⟩ (.int .i64 u)).setCell ⟨w.heap.size + 1, 1, none⟩ (.slice a1 (len g) c1)) := (X1.out.set (by exact Nat.le_succ _) _).set (by exact Nat.le_succ _) _
  refine ⟨u, g, a1, c1, rfl, (fun _ hv => by cases hv; rfl), TY.out, VS_mono (VS_ks V1.out fun b hb _ => ?_) fun b _ hb => Or.inl hb, Fr.of_ex XX B, EB0.out.ex XX⟩
  have := (HS.out b hb).1
  rw [Below.heap_setCell _ _ _ _ (by show b ≠ w.heap.size + 1; omega), Below.heap_setCell _ _ _ _ (by show b ≠ w.heap.size + 1; omega)]

end Go.Proofs.YtldbmlojgakieaaGreatDoor

namespace Go.Proofs.YtldbmlojgakieaaGreatDoor

open Go.RowKit Go.Deep Go.Maps Go.WideMaps

theorem put_ty {n : Int} {f : F} {p : List Int} {m : Int} {g : F} (ht : (valPutR n f p m g).2 = true) : (vType 4 (valPutR n f p m g).1.1 (valPutR n f p m g).1.2).isSome = true := by
  have h : mkV (valPutR n f p m g) = some (valPutR n f p m g).1 := if_pos ht
  have : tyV (valPutR n f p m g).1 := one_ty (L := fun _ => (0, .nil)) (k := 8) (n := 0) (s := ⟨#[]⟩) (p := p) (l := .node 0 0 n f (.node 0 0 m g .nil)) (fun _ => ty_int ⟨by omega, by omega⟩) (fun h => by omega) h
  exact this
theorem num_ty {k n : Int} {f : F} {m : Int} {g : F} {u : Int} (h : numV k n f m g = some (u, .nil)) : (vType 4 u .nil).isSome = true := by
  unfold numV at h
  split at h
  · split at h
    · exact okV_ty h
    split at h
    · exact okV_ty h
    · cases h
      by_cases hlt : n < m
      · rw [if_pos hlt]; exact ty_int ⟨by omega, by omega⟩
      · rw [if_neg hlt]; exact ty_int ⟨by omega, by omega⟩
  · cases h
theorem okV_num (u : Int) : okV u .nil = if 0 ≤ u ∧ u ≤ 9999 then some (u, .nil) else none := by
  unfold okV
  rw [vType_num rfl]
  by_cases h : 0 ≤ u ∧ u ≤ 9999
  · rw [if_pos h, if_pos h]; rfl
  · rw [if_neg h, if_neg h]; rfl
theorem num_op {k n m : Int} {f g : F} (hn : 0 ≤ n ∧ n ≤ 9999) (hm : 0 ≤ m ∧ m ≤ 9999) : mkV (((opN k n m).1, .nil), (opN k n m).2 && (((len f : Nat) : Int) + ((len g : Nat) : Int) == 0)) = numV k n f m g := by
  by_cases h0 : len f = 0 ∧ len g = 0
  · have e : (((len f : Nat) : Int) + ((len g : Nat) : Int) == 0) = true := by rw [beq_iff_eq]; omega
    rw [e, Bool.and_true, numV_nums h0.1 h0.2]
    unfold opN mkV
    by_cases h3 : k = 3
    · rw [if_pos h3, if_pos h3, okV_num]
      by_cases h : n + m ≤ 9999
      · show (if decide (n + m ≤ 9999) = true then some ((n + m, BT.nil) : Int × F) else none) = _
        rw [if_pos (decide_eq_true h), if_pos ⟨by omega, h⟩]
      · show (if decide (n + m ≤ 9999) = true then some ((n + m, BT.nil) : Int × F) else none) = _
        rw [if_neg (by simp only [decide_eq_true_eq]; exact h), if_neg (by omega)]
    · rw [if_neg h3, if_neg h3]
      by_cases h4 : k = 4
      · rw [if_pos h4, if_pos h4, okV_num]
        by_cases h : m ≤ n
        · show (if decide (m ≤ n) = true then some ((n - m, BT.nil) : Int × F) else none) = _
          rw [if_pos (decide_eq_true h), if_pos (by omega)]
        · show (if decide (m ≤ n) = true then some ((n - m, BT.nil) : Int × F) else none) = _
          rw [if_neg (by simp only [decide_eq_true_eq]; exact h), if_neg (by omega)]
      · rw [if_neg h4, if_neg h4]; rfl
  · have e : (((len f : Nat) : Int) + ((len g : Nat) : Int) == 0) = false := by rw [beq_eq_false_iff_ne]; omega
    rw [e, Bool.and_false, numV_kids h0]; rfl

end Go.Proofs.YtldbmlojgakieaaGreatDoor
