/- Walks: two values held against each other. -/
import Derived.Test.YtomnekiiccbioaaE4
import Derived.Test.YtomnekiiccbioaaV1
namespace Go.Proofs.Ytomnekiiccbioaa
open Go.RowKit Go.Deep
attribute [local go_sem ↓] Go.wp_at_zero Go.wp_at_succ

set_option maxRecDepth 100000 in
set_option maxHeartbeats 2000000 in
theorem lhVal_any : ∀ (d : Nat) (n m : Int) (f g : F) (a a' : Option Addr) (c c' lo lo' : Nat) (w : World), dep f < d → len f ≤ 1000000000 → Sm f → VA w lo f a → VA w lo' g a' →
    Calls Try.prog 37 #[.agg #[.int .i64 n, .slice a (len f) c], .agg #[.int .i64 m, .slice a' (len g) c']] w fun e w' => e = .returned (.bool (n == m && eqV f g)) ∧ Ex w w' := by
  intro d
  induction d with
  | zero =>
    intro n m f g a a' c c' lo lo' w hd hl hs hT hT'
    omega
  | succ d ih =>
    intro n m f g a a' c c' lo lo' w hd hl hs hT hT'
    have T : Hid (VA w lo f a) := hT
    have T' : Hid (VA w lo' g a') := hT'
    have I : Hid _ := ih
    have SS : Hid (Sm f) := hs
    clear hT hT' ih hs
    by_cases hnm : n = m
    · have en : (n != m) = false := by simp [hnm]
      have R : Hid ((n == m && eqV f g) = eqV f g) := by show _ = _; simp [hnm]
      clear hnm
      by_cases hlen : len f = len g
      · have e0 : ((len f : Int) != (len g : Int)) = false := by simp [hlen]
        have hle : len f ≤ len g := by omega
        have hge : len g ≤ len f := by omega
        have HL : Hid (len f = len g) := hlen
        clear hlen
        go_enter Try.func37, Try.ntmps37
        go_wp2_with fail
        go_loopw [5] (fun i wr => ∃ k : Nat, k ≤ len f ∧ i = .int .i64 k ∧ Ex ((w.alloc (.cells #[.int .i64 n, .slice a (len f) c] 39)).alloc (.cells #[.int .i64 m, .slice a' (len g) c'] 39)) wr ∧ ∀ j, j < k → (num f j == num g j && eqV (kid f j) (kid g j)) = true) (fun i _ => len f - (intOf i).toNat)
        case atStart => exact ⟨0, Nat.zero_le _, rfl, Ex.refl _, fun j hj => by omega⟩
        case round =>
          obtain ⟨k, hk, rfl, hx, hfit⟩ := hrel
          have hbx : wr.cell? ⟨w.heap.size, 1, none⟩ = some (.slice a (len f) c) := Ex.at hx (by simp)
          have hbx' : wr.cell? ⟨w.heap.size + 1, 1, none⟩ = some (.slice a' (len g) c') := Ex.at hx (by simp)
          have hw : Ex w wr := ((Ex.new _ _).alloc _).trans hx
          have FT : Hid (∀ j, j < k → (num f j == num g j && eqV (kid f j) (kid g j)) = true) := hfit
          clear hfit
          by_cases hlt : k < len f
          · obtain ⟨b, o, rfl, hlo, hbs, hkk⟩ := VA_at (VA_below T.out hw) (by omega)
            obtain ⟨hn1, a1, c1, hc1, ht1⟩ := hkk k hlt
            obtain ⟨b', o', rfl, hlo', hbs', hkk'⟩ := VA_at (VA_below T'.out hw) (by omega)
            obtain ⟨hn2, a2, c2, hc2, ht2⟩ := hkk' k (by omega)
            have KS : Hid (∀ w', Ex wr w' → (Ex wr w' ∧ w'.cell? ⟨w.heap.size, 1, none⟩ = some (.slice (some ⟨b, o, none⟩) (len f) c) ∧ w'.cell? ⟨w.heap.size + 1, 1, none⟩ = some (.slice (some ⟨b', o', none⟩) (len g) c') ∧ w'.cell? ⟨b, o + k * 2, none⟩ = some (.int .i64 (num f k)) ∧ w'.cell? ⟨b, o + k * 2 + 1, none⟩ = some (.slice a1 (len (kid f k)) c1) ∧ w'.cell? ⟨b', o' + k * 2, none⟩ = some (.int .i64 (num g k)) ∧ w'.cell? ⟨b', o' + k * 2 + 1, none⟩ = some (.slice a2 (len (kid g k)) c2))) := fun w' h => ⟨h, Ex.at h hbx, Ex.at h hbx', Ex.at h hn1, Ex.at h hc1, Ex.at h hn2, Ex.at h hc2⟩
            have hI : Hid (∀ w', Ex wr w' → Calls Try.prog 37 #[.agg #[.int .i64 (num f k), .slice a1 (len (kid f k)) c1], .agg #[.int .i64 (num g k), .slice a2 (len (kid g k)) c2]] w' fun e w'' => e = .returned (.bool (num f k == num g k && eqV (kid f k) (kid g k))) ∧ Ex w' w'') := fun w' h =>
              I.out (num f k) (num g k) (kid f k) (kid g k) a1 a2 c1 c2 lo lo' w' (by have := dep_kid f k hlt; omega) (Sm_kid SS.out k hlt).1 (Sm_kid SS.out k hlt).2 (VA_below ht1 h) (VA_below ht2 h)
            have i0 : (0 : Int) ≤ (k : Int) := by omega
            have i1 : (k : Int) < (len f : Int) := by omega
            have i2 : (k : Int) < (len g : Int) := by omega
            obtain ⟨z, hzz⟩ : ∃ z, z = (num f k == num g k && eqV (kid f k) (kid g k)) := ⟨_, rfl⟩
            rw [← hzz] at hI
            have HZ : Hid (z = (num f k == num g k && eqV (kid f k) (kid g k))) := hzz
            clear hkk hkk' ht1 ht2 hzz
            go_wp2_with fail
            go_region_held3 (fun w' => Ex wr w' ∧ w'.cell? ⟨w.heap.size, 1, none⟩ = some (.slice (some ⟨b, o, none⟩) (len f) c) ∧ w'.cell? ⟨w.heap.size + 1, 1, none⟩ = some (.slice (some ⟨b', o', none⟩) (len g) c') ∧ w'.cell? ⟨b, o + k * 2, none⟩ = some (.int .i64 (num f k)) ∧ w'.cell? ⟨b, o + k * 2 + 1, none⟩ = some (.slice a1 (len (kid f k)) c1) ∧ w'.cell? ⟨b', o' + k * 2, none⟩ = some (.int .i64 (num g k)) ∧ w'.cell? ⟨b', o' + k * 2 + 1, none⟩ = some (.slice a2 (len (kid g k)) c2)) ((refine KS.out _ ?_; first | exact (Ex.refl _).drew | exact Ex.trans (And.left ‹Ex _ _ ∧ _›) ‹Ex _ _›)) (first | (go_at_call 37; refine (hI.out _ (And.left ‹Ex _ _ ∧ _›)).mono ?_; rintro e w7 ⟨rfl, hb7⟩))
            have hx7 : Ex wr w7 := And.left ‹Ex wr w7 ∧ _›
            cases z
            · go_wp2_with fail
              go_ret
              exact ⟨ret_b (by rw [R.out, eqV_bad _ _ k hlt HZ.out.symm]), hw.trans hx7⟩
            · go_wp2_with fail
              go_roundw
              case rel => exact ⟨k + 1, by omega, by go_num, hx.trans hx7, fun j hj => by
                by_cases hj' : j < k
                · exact FT.out j hj'
                · rw [show j = k by omega]; exact HZ.out.symm⟩
              case measure => simp [intOf]; omega
          · go_wp2_with fail
            go_ret
            exact ⟨ret_b (by rw [R.out, eqV_good _ _ HL.out fun j hj => FT.out j (by omega)]), hw⟩
      · have e0 : ((len f : Int) != (len g : Int)) = true := by simp; omega
        go_enter Try.func37, Try.ntmps37
        go_wp2_with fail
        go_ret
        exact ⟨ret_b (by rw [R.out, eqV_len _ _ hlen]), (Ex.new _ _).alloc _⟩
    · have en : (n != m) = true := by simp [hnm]
      have R : Hid ((n == m && eqV f g) = false) := by show _ = _; simp [hnm]
      go_enter Try.func37, Try.ntmps37
      go_wp2_with fail
      go_ret
      exact ⟨ret_b R.out.symm, (Ex.new _ _).alloc _⟩

end Go.Proofs.Ytomnekiiccbioaa
