/- Walks: what the exact laws do with types. -/
import Derived.Test.YthdihpcpobhadaaDoorW5

namespace Go.Proofs.YthdihpcpobhadaaDoor

open Go.RowKit Go.Deep

attribute [local go_sem ↓] Go.wp_at_zero Go.wp_at_succ

/-- All lists are of a length that is one. -/
def Lm : F → Prop
  | .nil => True
  | .node _ _ _ k r => len k ≤ 9223372036854775807 ∧ Lm k ∧ Lm r
theorem Lm_kid : ∀ {f : F}, Lm f → ∀ i, i < len f → len (kid f i) ≤ 9223372036854775807 ∧ Lm (kid f i)
  | .nil, _, i, h => by simp [len] at h
  | .node _ _ _ k r, hs, 0, _ => ⟨hs.1, hs.2.1⟩
  | .node _ _ _ k r, hs, i + 1, h => Lm_kid hs.2.2 i (by simp only [len] at h; omega)

/-- Small, as far as it goes. -/
def SmTo (f : F) (k : Nat) : Prop := ∀ j, j < k → len (kid f j) ≤ 1000000000 ∧ Sm (kid f j)
theorem Sm_of : ∀ {f : F}, SmTo f (len f) → Sm f
  | .nil, _ => trivial
  | .node _ _ _ k r, h => ⟨(h 0 (by simp [len])).1, (h 0 (by simp [len])).2, Sm_of fun j hj => h (j + 1) (by simp only [len]; omega)⟩

set_option maxRecDepth 100000 in
set_option maxHeartbeats 2000000 in
theorem szType_both : ∀ (d : Nat), (∀ (f : F) (a : Option Addr) (c lo : Nat) (l : Int) (w : World), dep f < d → len f ≤ 9223372036854775807 → Lm f → 0 ≤ l → l ≤ 1048576 → TA w lo f a →
      Calls Tryd.prog 14 #[.slice a (len f) c, .int .i64 l] w fun e w' => ∃ x : Int, e = .returned (.int .i64 x) ∧ -1 ≤ x ∧ x ≤ l ∧ (0 ≤ x → len f ≤ 1048576 ∧ Sm f) ∧ Ex w w') ∧
    (∀ (f : F) (a : Option Addr) (c lo : Nat) (l : Int) (w : World), dep f < d → len f ≤ 9223372036854775807 → Lm f → 0 ≤ l → l ≤ 1048576 → TA w lo f a →
      Calls Tryd.prog 46 #[.agg #[.slice a (len f) c], .int .i64 l] w fun e w' => ∃ x : Int, e = .returned (.int .i64 x) ∧ -1 ≤ x ∧ x ≤ l ∧ (0 ≤ x → len f ≤ 1048576 ∧ Sm f) ∧ Ex w w') := by
  intro d
  induction d with
  | zero => exact ⟨fun f a c lo l w hd => by omega, fun f a c lo l w hd => by omega⟩
  | succ d ih =>
    have hS : ∀ (f : F) (a : Option Addr) (c lo : Nat) (l : Int) (w : World), dep f < d + 1 → len f ≤ 9223372036854775807 → Lm f → 0 ≤ l → l ≤ 1048576 → TA w lo f a →
      Calls Tryd.prog 14 #[.slice a (len f) c, .int .i64 l] w fun e w' => ∃ x : Int, e = .returned (.int .i64 x) ∧ -1 ≤ x ∧ x ≤ l ∧ (0 ≤ x → len f ≤ 1048576 ∧ Sm f) ∧ Ex w w' := by
      intro f a c lo l w hd hlen hlm hl0 hl1 hT
      have T : Hid (TA w lo f a) := hT
      have I : Hid _ := ih.2
      have LM : Hid (Lm f) := hlm
      clear hT hlm
      by_cases hneg : l - len f < 0
      · go_enter Tryd.func14, Tryd.ntmps14
        go_wp2_with fail
        go_ret
        exact ⟨-1, rfl, by omega, by omega, fun h => by omega, Ex.refl _⟩
      · go_enter Tryd.func14, Tryd.ntmps14
        go_wp2_with fail
        go_loopw [1, 5] (fun lv i wr => ∃ (k : Nat) (x : Int), k ≤ len f ∧ i = .int .i64 k ∧ lv = .int .i64 x ∧ 0 ≤ x ∧ x ≤ l ∧ SmTo f k ∧ Ex w wr) (fun _ i _ => len f - (intOf i).toNat)
        case atStart => exact ⟨0, l - len f, Nat.zero_le _, rfl, rfl, by omega, by omega, fun j hj => by omega, Ex.refl _⟩
        case round =>
          obtain ⟨k, x, hk, rfl, rfl, hx0, hxl, hsm, hx⟩ := hrel
          have ST : Hid (SmTo f k) := hsm
          clear hsm
          by_cases hlt : k < len f
          · obtain ⟨b, o, rfl, hlo, hbs, hkk⟩ := TA_at (TA_below T.out hx) (by omega)
            obtain ⟨a1, k1, hc1, ht1⟩ := hkk k hlt
            have T1 : Hid (TA wr lo (kid f k) a1) := ht1
            clear hkk ht1
            go_wp2_with fail
            refine (I.out (kid f k) a1 k1 lo x _ (by have := dep_kid f k hlt; omega) (Lm_kid LM.out k hlt).1 (Lm_kid LM.out k hlt).2 hx0 (by omega) T1.out).mono ?_
            rintro e w1 ⟨y, rfl, hy0, hy1, hysm, hb1⟩
            have YS : Hid (0 ≤ y → len (kid f k) ≤ 1048576 ∧ Sm (kid f k)) := hysm
            clear hysm
            by_cases hy : y < 0
            · go_wp2_with fail
              go_ret
              exact ⟨-1, rfl, by omega, by omega, fun h => by omega, hx.trans hb1⟩
            · go_wp2_with fail
              go_roundw
              case rel => exact ⟨k + 1, y, by omega, by go_num, rfl, by omega, by omega, fun j hj => by
                by_cases hj' : j < k
                · exact ST.out j hj'
                · rw [show j = k by omega]; have := YS.out (by omega); exact ⟨by omega, this.2⟩, hx.trans hb1⟩
              case measure => simp [intOf]; omega
          · go_wp2_with fail
            go_ret
            exact ⟨x, rfl, by omega, hxl, fun _ => ⟨by omega, Sm_of (by rw [show len f = k by omega]; exact ST.out)⟩, hx⟩
    refine ⟨hS, ?_⟩
    intro f a c lo l w hd hlen hlm hl0 hl1 hT
    have HS : Hid _ := hS
    clear hS ih
    go_enter Tryd.func46, Tryd.ntmps46
    go_wp2_with fail
    refine (HS.out f a c lo l _ hd hlen hlm hl0 hl1 (TA_below hT (Ex.new _ _))).mono ?_
    rintro e w1 ⟨y, rfl, hy0, hy1, hysm, hb1⟩
    have YS : Hid (0 ≤ y → len f ≤ 1048576 ∧ Sm f) := hysm
    clear hysm
    by_cases hy : y < 0
    · go_wp2_with fail
      go_ret
      exact ⟨-1, rfl, by omega, by omega, fun h => by omega, (Ex.new _ _).trans hb1⟩
    · go_wp2_with fail
      go_ret
      exact ⟨y, rfl, by omega, by omega, YS.out, (Ex.new _ _).trans hb1⟩

set_option maxRecDepth 100000 in
set_option maxHeartbeats 2000000 in
theorem eqType_both : ∀ (d : Nat), (∀ (f g : F) (a a' : Option Addr) (c c' lo lo' : Nat) (w : World), dep f < d → len f ≤ 1000000000 → Sm f → TA w lo f a → TA w lo' g a' →
      Calls Tryd.prog 21 #[.slice a (len f) c, .slice a' (len g) c'] w fun e w' => e = .returned (.bool (eqT f g)) ∧ Ex w w') ∧
    (∀ (f g : F) (a a' : Option Addr) (c c' lo lo' : Nat) (w : World), dep f < d → len f ≤ 1000000000 → Sm f → TA w lo f a → TA w lo' g a' →
      Calls Tryd.prog 19 #[.agg #[.slice a (len f) c], .agg #[.slice a' (len g) c']] w fun e w' => e = .returned (.bool (eqT f g)) ∧ Ex w w') := by
  intro d
  induction d with
  | zero => exact ⟨fun f g a a' c c' lo lo' w hd => by omega, fun f g a a' c c' lo lo' w hd => by omega⟩
  | succ d ih =>
    have hS : ∀ (f g : F) (a a' : Option Addr) (c c' lo lo' : Nat) (w : World), dep f < d + 1 → len f ≤ 1000000000 → Sm f → TA w lo f a → TA w lo' g a' →
      Calls Tryd.prog 21 #[.slice a (len f) c, .slice a' (len g) c'] w fun e w' => e = .returned (.bool (eqT f g)) ∧ Ex w w' := by
      intro f g a a' c c' lo lo' w hd hl hs hT hT'
      have T : Hid (TA w lo f a) := hT
      have T' : Hid (TA w lo' g a') := hT'
      have I : Hid _ := ih.2
      have SS : Hid (Sm f) := hs
      clear hT hT' ih hs
      by_cases hlen : len f = len g
      · have e0 : ((len f : Int) != (len g : Int)) = false := by simp [hlen]
        have hle : len f ≤ len g := by omega
        have hge : len g ≤ len f := by omega
        have HL : Hid (len f = len g) := hlen
        clear hlen
        go_enter Tryd.func21, Tryd.ntmps21
        go_wp2_with fail
        go_loopw [5] (fun i wr => ∃ k : Nat, k ≤ len f ∧ i = .int .i64 k ∧ Ex w wr ∧ ∀ j, j < k → eqT (kid f j) (kid g j) = true) (fun i _ => len f - (intOf i).toNat)
        case atStart => exact ⟨0, Nat.zero_le _, rfl, Ex.refl _, fun j hj => by omega⟩
        case round =>
          obtain ⟨k, hk, rfl, hx, hfit⟩ := hrel
          have FT : Hid (∀ j, j < k → eqT (kid f j) (kid g j) = true) := hfit
          clear hfit
          by_cases hlt : k < len f
          · obtain ⟨b, o, rfl, hlo, hbs, hkk⟩ := TA_at (TA_below T.out hx) (by omega)
            obtain ⟨a1, c1, hc1, ht1⟩ := hkk k hlt
            obtain ⟨b', o', rfl, hlo', hbs', hkk'⟩ := TA_at (TA_below T'.out hx) (by omega)
            obtain ⟨a2, c2, hc2, ht2⟩ := hkk' k (by omega)
            have KS : Hid (∀ w', Ex wr w' → (Ex wr w' ∧ w'.cell? ⟨b, o + k, none⟩ = some (.slice a1 (len (kid f k)) c1) ∧ w'.cell? ⟨b', o' + k, none⟩ = some (.slice a2 (len (kid g k)) c2))) := fun w' h => ⟨h, Ex.at h hc1, Ex.at h hc2⟩
            have hI : Hid (∀ w', Ex wr w' → Calls Tryd.prog 19 #[.agg #[.slice a1 (len (kid f k)) c1], .agg #[.slice a2 (len (kid g k)) c2]] w' fun e w'' => e = .returned (.bool (eqT (kid f k) (kid g k))) ∧ Ex w' w'') := fun w' h =>
              I.out (kid f k) (kid g k) a1 a2 c1 c2 lo lo' w' (by have := dep_kid f k hlt; omega) (Sm_kid SS.out k hlt).1 (Sm_kid SS.out k hlt).2 (TA_below ht1 h) (TA_below ht2 h)
            have i0 : (0 : Int) ≤ (k : Int) := by omega
            have i1 : (k : Int) < (len f : Int) := by omega
            have i2 : (k : Int) < (len g : Int) := by omega
            clear hkk hkk' ht1 ht2
            go_wp2_with fail
            go_region_held3 (fun w' => Ex wr w' ∧ w'.cell? ⟨b, o + k, none⟩ = some (.slice a1 (len (kid f k)) c1) ∧ w'.cell? ⟨b', o' + k, none⟩ = some (.slice a2 (len (kid g k)) c2)) ((refine KS.out _ ?_; first | exact (Ex.refl _).drew | exact Ex.trans (And.left ‹Ex _ _ ∧ _›) ‹Ex _ _›)) (first | (go_at_call 19; refine (hI.out _ (And.left ‹Ex _ _ ∧ _›)).mono ?_; rintro e w7 ⟨rfl, hb7⟩))
            have hx7 : Ex wr w7 := And.left ‹Ex wr w7 ∧ _›
            cases hfk : eqT (kid f k) (kid g k)
            · go_wp2_with fail
              go_ret
              exact ⟨ret_b (eqT_bad _ _ k hlt hfk).symm, hx.trans hx7⟩
            · go_wp2_with fail
              go_roundw
              case rel => exact ⟨k + 1, by omega, by go_num, hx.trans hx7, fun j hj => by
                by_cases hj' : j < k
                · exact FT.out j hj'
                · rw [show j = k by omega]; exact hfk⟩
              case measure => simp [intOf]; omega
          · go_wp2_with fail
            go_ret
            exact ⟨ret_b (eqT_good _ _ HL.out fun j hj => FT.out j (by omega)).symm, hx⟩
      · have e0 : ((len f : Int) != (len g : Int)) = true := by simp; omega
        go_enter Tryd.func21, Tryd.ntmps21
        go_wp2_with fail
        go_ret
        exact ⟨ret_b (eqT_len _ _ hlen).symm, Ex.refl _⟩
    refine ⟨hS, ?_⟩
    intro f g a a' c c' lo lo' w hd hl hs hT hT'
    have HS : Hid _ := hS
    clear hS ih
    go_enter Tryd.func19, Tryd.ntmps19
    go_wp2_with fail
    refine (HS.out f g a a' c c' lo lo' _ hd hl hs (TA_below hT ((Ex.new _ _).alloc _)) (TA_below hT' ((Ex.new _ _).alloc _))).mono ?_
    rintro e w1 ⟨rfl, hb1⟩
    cases hfk : eqT f g
    · go_wp2_with fail
      go_ret
      exact ⟨ret_b hfk.symm, ((Ex.new _ _).alloc _).trans hb1⟩
    · go_wp2_with fail
      go_ret
      exact ⟨ret_b hfk.symm, ((Ex.new _ _).alloc _).trans hb1⟩

end Go.Proofs.YthdihpcpobhadaaDoor
