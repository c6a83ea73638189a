/- Walks: the type of a value, and whether a value is of a type, by the specification. -/
import Derived.Test.YtngheeeadekdmaaDoorV2

import Derived.Test.YtngheeeadekdmaaDoorW5

import Derived.Test.YtngheeeadekdmaaDoorW7

namespace Go.Proofs.YtngheeeadekdmaaDoor

open Go.RowKit Go.Deep

attribute [local go_sem ↓] Go.wp_at_zero Go.wp_at_succ

set_option maxRecDepth 100000 in
set_option maxHeartbeats 2000000 in
theorem valType_any (n : Int) (f : F) (a : Option Addr) (c lo : Nat) (w : World) (hT : VA w lo f a) :
    Calls Tryd.prog 16 #[.agg #[.int .i64 n, .slice a (len f) c]] w fun e w' => ∃ a' c', e = .returned (.tuple #[.agg #[.slice a' (len ((vType 4 n f).getD .nil)) c'], .bool (vType 4 n f).isSome]) ∧ TA w' w.heap.size ((vType 4 n f).getD .nil) a' ∧ Ex w w' := by
  have I : Hid (∀ w', Ex w w' → Calls Tryd.prog 24 #[.agg #[.int .i64 n, .slice a (len f) c], .int .i64 4] w' fun e w'' => ∃ a' c', e = .returned (.tuple #[.agg #[.slice a' (len ((vType 4 n f).getD .nil)) c'], .bool (vType 4 n f).isSome]) ∧ TA w'' w'.heap.size ((vType 4 n f).getD .nil) a' ∧ Ex w' w'') := fun w' h => valTypeIn_any 4 n f a c lo w' (by omega) (VA_below hT h)
  clear hT
  obtain ⟨ty, hty⟩ : ∃ ty, ty = vType 4 n f := ⟨_, rfl⟩
  rw [← hty] at I ⊢
  clear hty
  go_enter Tryd.func16, Tryd.ntmps16
  go_wp2_with fail
  refine (I.out _ ((Ex.new _ _).alloc _)).mono ?_
  rintro e w1 ⟨a1, c1, rfl, ht1, hb1⟩
  have rb : w1.heap[w.heap.size + 1]? = some (.cells #[.slice none 0 0] 41 (0, 0)) := hb1.blk (by have := heap_alloc_new (w.alloc (.cells #[.int .i64 n, .slice a (len f) c] 25)) (.cells #[.slice none 0 0] 41); rwa [World.size_alloc] at this)
  have q1 := cell_of_one rb
  have q2 := free_of_one rb
  have x1 : Ex w w1 := ((Ex.new _ _).alloc _).trans hb1
  have T1 : Hid (TA w1 (w.heap.size + 2) (ty.getD .nil) a1) := by rw [World.size_alloc, World.size_alloc] at ht1; exact ht1
  clear ht1
  go_wp2_with fail
  have hres := World.cell?_setCell_same w1 ⟨w.heap.size + 1, 0, none⟩ (.slice a1 (len (ty.getD .nil)) c1) q1
  refine bodyPost_ret (v := .tuple #[.agg #[.slice a1 (len (ty.getD .nil)) c1], .bool ty.isSome]) (by simp [results, Tryd.results16, go_sem, hres]) rfl ⟨a1, c1, rfl, TA_lo (TA_kp T1.out ((Kp.refl _ _).set (Or.inl (by show w.heap.size + 1 < w.heap.size + 2; omega)) _)) (by omega), x1.set (Nat.le_succ _) _⟩


/-- A value is of a type, whatever that is. -/
def isOf : Nat → F → Int → F → Bool
  | 0, _, _, _ => false
  | d + 1, t, n, f => len f == len t && (len f == 0 || n == 0) && decide (0 ≤ n ∧ n ≤ 9999) && (List.range (len f)).all fun i => isOf d (kid t i) (num f i) (kid f i)

set_option maxRecDepth 100000 in
set_option maxHeartbeats 2000000 in
theorem l1Val_any : ∀ (d : Nat) (t : F) (n : Int) (f : F) (a at' : Option Addr) (c ct lo lo' : Nat) (w : World), dep f < d → len f ≤ 1000000000 → Sm f → VA w lo f a → TA w lo' t at' →
    Calls Tryd.prog 31 #[.agg #[.slice at' (len t) ct], .agg #[.int .i64 n, .slice a (len f) c]] w fun e w' => e = .returned (.bool (isOf d t n f)) ∧ Ex w w' := by
  intro d
  induction d with
  | zero => intro t n f a at' c ct lo lo' w hd; omega
  | succ d ih =>
    intro t n f a at' c ct lo lo' w hd hl hs hV hT
    have V : Hid (∀ w', Ex w w' → VA w' lo f a) := fun _ h => VA_below hV h
    have T : Hid (∀ w', Ex w w' → TA w' lo' t at') := fun _ h => TA_below hT h
    have I : Hid _ := ih
    have SS : Hid (Sm f) := hs
    clear hV hT ih hs
    by_cases hlen : len f = len t
    · have hl' : ((len f : Int) != (len t : Int)) = false := by simp; omega
      by_cases hz : len f = 0
      · have g0 : decide ((0 : Int) < (len f : Int)) = false := by simp; omega
        have g1 : decide (0 < len f) = false := by simp; omega
        have g2 : ¬ 0 < len f := by omega
        by_cases hr : 0 ≤ n ∧ n ≤ 9999
        · have IN : Hid (∀ w', Calls Tryd.prog 34 #[.int .i64 n, .int .i64 0, .int .i64 9999] w' fun e w'' => e = .returned (.bool true) ∧ Ex w' w'') := fun w' => by
            have := l6In_any n 0 9999 w'
            rw [show decide (0 ≤ n ∧ n ≤ 9999) = true by simp [hr]] at this
            exact this
          have R : Hid (isOf (d + 1) t n f = true) := by
            show _ = _
            simp [isOf, hz, hr, ← hlen]
          clear hlen hr hz
          go_enter Tryd.func31, Tryd.ntmps31
          go_wp2_with fail
          refine (IN.out _).mono ?_
          rintro e w1 ⟨rfl, hb1⟩
          have q1 : w1.cell? ⟨w.heap.size + 1, 1, none⟩ = some (.slice a (len f) c) := hb1.at (by simp)
          go_wp2_with fail
          go_loopw [5] (fun i wr => i = .int .i64 0 ∧ Ex w1 wr) (fun _ _ => 0)
          case atStart => exact ⟨rfl, Ex.refl _⟩
          case round =>
            obtain ⟨rfl, hx⟩ := hrel
            have q2 := hx.at q1
            go_wp2_with fail
            go_ret
            exact ⟨ret_b R.out.symm, ((Ex.new _ _).alloc _).trans (hb1.trans hx)⟩
        · have IN : Hid (∀ w', Calls Tryd.prog 34 #[.int .i64 n, .int .i64 0, .int .i64 9999] w' fun e w'' => e = .returned (.bool false) ∧ Ex w' w'') := fun w' => by
            have := l6In_any n 0 9999 w'
            rw [show decide (0 ≤ n ∧ n ≤ 9999) = false by simp [hr]] at this
            exact this
          have R : Hid (isOf (d + 1) t n f = false) := by
            show _ = _
            simp [isOf, hr]
          clear hlen hr hz
          go_enter Tryd.func31, Tryd.ntmps31
          go_wp2_with fail
          refine (IN.out _).mono ?_
          rintro e w1 ⟨rfl, hb1⟩
          go_wp2_with fail
          go_ret
          exact ⟨ret_b R.out.symm, ((Ex.new _ _).alloc _).trans hb1⟩
      · have g0 : decide ((0 : Int) < (len f : Int)) = true := by simp; omega
        have g1 : decide (0 < len f) = true := by simp; omega
        have g2 : 0 < len f := by omega
        by_cases hn : n = 0
        · subst hn
          have IN : Hid (∀ w', Calls Tryd.prog 34 #[.int .i64 0, .int .i64 0, .int .i64 9999] w' fun e w'' => e = .returned (.bool true) ∧ Ex w' w'') := fun w' => l6In_any 0 0 9999 w'
          have R1 : Hid ((∀ j, j < len f → isOf d (kid t j) (num f j) (kid f j) = true) → isOf (d + 1) t 0 f = true) := fun h => by
            simp [isOf, hlen] at h ⊢
            exact h
          have R0 : Hid (∀ j, j < len f → isOf d (kid t j) (num f j) (kid f j) = false → isOf (d + 1) t 0 f = false) := fun j hj h => by
            simp only [isOf, hlen]
            rw [Bool.and_eq_false_iff]
            right
            rw [List.all_eq_false]
            exact ⟨j, by simp; omega, by simp [h]⟩
          have HL : Hid (len f = len t) := hlen
          clear hlen hz
          go_enter Tryd.func31, Tryd.ntmps31
          go_wp2_with fail
          refine (IN.out _).mono ?_
          rintro e w1 ⟨rfl, hb1⟩
          have X1 : Hid (Ex w w1) := ((Ex.new _ _).alloc _).trans hb1
          have Q0 : Hid (∀ w', Ex w1 w' → w'.cell? ⟨w.heap.size, 0, none⟩ = some (.slice at' (len t) ct)) := fun _ h => h.at (hb1.at (by simp))
          have Q1 : Hid (∀ w', Ex w1 w' → w'.cell? ⟨w.heap.size + 1, 1, none⟩ = some (.slice a (len f) c)) := fun _ h => h.at (hb1.at (by simp))
          clear hb1
          go_wp2_with fail
          go_loopw [5] (fun i wr => ∃ (k : Nat), k ≤ len f ∧ i = .int .i64 k ∧ Ex w1 wr ∧ (∀ j, j < k → isOf d (kid t j) (num f j) (kid f j) = true)) (fun i _ => len f - (intOf i).toNat)
          case atStart => exact ⟨0, Nat.zero_le _, rfl, Ex.refl _, fun j hj => by omega⟩
          case round =>
            obtain ⟨k, hk, rfl, hx, hall⟩ := hrel
            have HA : Hid (∀ j, j < k → isOf d (kid t j) (num f j) (kid f j) = true) := hall
            have q2 := Q1.out wr hx
            clear hall
            by_cases hlt : k < len f
            · obtain ⟨b, o, rfl, hlo, hbs, hkk⟩ := VA_at (V.out wr (X1.out.trans hx)) (by omega)
              obtain ⟨hn1, a1, c1, hc1, hv1⟩ := hkk k hlt
              obtain ⟨b', o', rfl, hlo', hbs', hkk'⟩ := TA_at (T.out wr (X1.out.trans hx)) (by have := HL.out; omega)
              obtain ⟨a2, c2, hc2, ht2⟩ := hkk' k (by have := HL.out; omega)
              have KS : Hid (∀ w', Ex wr w' → (Ex wr w' ∧ w'.cell? ⟨w.heap.size, 0, none⟩ = some (.slice (some ⟨b', o', none⟩) (len t) ct) ∧ w'.cell? ⟨w.heap.size + 1, 1, none⟩ = some (.slice (some ⟨b, o, none⟩) (len f) c) ∧ w'.cell? ⟨b, o + k * 2, none⟩ = some (.int .i64 (num f k)) ∧ w'.cell? ⟨b, o + k * 2 + 1, none⟩ = some (.slice a1 (len (kid f k)) c1) ∧ w'.cell? ⟨b', o' + k, none⟩ = some (.slice a2 (len (kid t k)) c2))) := fun w' h => ⟨h, Q0.out w' (hx.trans h), Q1.out w' (hx.trans h), h.at hn1, h.at hc1, h.at hc2⟩
              have i1 : (0 : Int) ≤ (k : Int) := by omega
              have i2 : (k : Int) < (len f : Int) := by omega
              have i3 : (k : Int) < (len t : Int) := by have := HL.out; omega
              have hJ : Hid (∀ w', Ex wr w' → Calls Tryd.prog 31 #[.agg #[.slice a2 (len (kid t k)) c2], .agg #[.int .i64 (num f k), .slice a1 (len (kid f k)) c1]] w' fun e w'' => e = .returned (.bool (isOf d (kid t k) (num f k) (kid f k))) ∧ Ex w' w'') := fun w' h => I.out (kid t k) (num f k) (kid f k) a1 a2 c1 c2 lo lo' w' (by have := dep_kid f k hlt; omega) (Sm_kid SS.out k hlt).1 (Sm_kid SS.out k hlt).2 (VA_below hv1 h) (TA_below ht2 h)
              have HX : Hid (Ex w1 wr) := hx
              obtain ⟨z, hzz⟩ : ∃ z, z = isOf d (kid t k) (num f k) (kid f k) := ⟨_, rfl⟩
              rw [← hzz] at hJ
              have HZ : Hid (z = isOf d (kid t k) (num f k) (kid f k)) := hzz
              clear hkk hkk' hv1 ht2 hzz hx
              cases z
              · have hI : Hid (∀ w', Ex wr w' → Calls Tryd.prog 31 #[.agg #[.slice a2 (len (kid t k)) c2], .agg #[.int .i64 (num f k), .slice a1 (len (kid f k)) c1]] w' fun e w'' => e = .returned (.bool false) ∧ Ex w' w'') := hJ
                clear hJ
                go_wp2_with fail
                go_region_held3 (fun w' => Ex wr w' ∧ w'.cell? ⟨w.heap.size, 0, none⟩ = some (.slice (some ⟨b', o', none⟩) (len t) ct) ∧ w'.cell? ⟨w.heap.size + 1, 1, none⟩ = some (.slice (some ⟨b, o, none⟩) (len f) c) ∧ w'.cell? ⟨b, o + k * 2, none⟩ = some (.int .i64 (num f k)) ∧ w'.cell? ⟨b, o + k * 2 + 1, none⟩ = some (.slice a1 (len (kid f k)) c1) ∧ w'.cell? ⟨b', o' + k, none⟩ = some (.slice a2 (len (kid t k)) c2)) ((refine KS.out _ ?_; first | exact (Ex.refl _).drew | exact Ex.trans (And.left ‹Ex _ _ ∧ _›) ‹Ex _ _› | exact (And.left ‹Ex _ _ ∧ _›))) (first | (go_at_call 31; refine (hI.out _ (And.left ‹Ex _ _ ∧ _›)).mono ?_; rintro e w7 ⟨rfl, hb7⟩))
                go_wp2_with fail
                go_ret
                exact ⟨ret_b (R0.out k hlt HZ.out.symm).symm, X1.out.trans (HX.out.trans (And.left ‹Ex _ _ ∧ _›))⟩
              · have hI : Hid (∀ w', Ex wr w' → Calls Tryd.prog 31 #[.agg #[.slice a2 (len (kid t k)) c2], .agg #[.int .i64 (num f k), .slice a1 (len (kid f k)) c1]] w' fun e w'' => e = .returned (.bool true) ∧ Ex w' w'') := hJ
                clear hJ
                go_wp2_with fail
                go_region_held3 (fun w' => Ex wr w' ∧ w'.cell? ⟨w.heap.size, 0, none⟩ = some (.slice (some ⟨b', o', none⟩) (len t) ct) ∧ w'.cell? ⟨w.heap.size + 1, 1, none⟩ = some (.slice (some ⟨b, o, none⟩) (len f) c) ∧ w'.cell? ⟨b, o + k * 2, none⟩ = some (.int .i64 (num f k)) ∧ w'.cell? ⟨b, o + k * 2 + 1, none⟩ = some (.slice a1 (len (kid f k)) c1) ∧ w'.cell? ⟨b', o' + k, none⟩ = some (.slice a2 (len (kid t k)) c2)) ((refine KS.out _ ?_; first | exact (Ex.refl _).drew | exact Ex.trans (And.left ‹Ex _ _ ∧ _›) ‹Ex _ _› | exact (And.left ‹Ex _ _ ∧ _›))) (first | (go_at_call 31; refine (hI.out _ (And.left ‹Ex _ _ ∧ _›)).mono ?_; rintro e w7 ⟨rfl, hb7⟩))
                go_wp2_with fail
                go_roundw
                case rel => exact ⟨k + 1, by omega, by go_num, HX.out.trans (And.left ‹Ex _ _ ∧ _›), fun j hj => by
                  by_cases hj' : j < k
                  · exact HA.out j hj'
                  · rw [show j = k by omega]; exact HZ.out.symm⟩
                case measure => simp [intOf]; omega
            · go_wp2_with fail
              go_ret
              exact ⟨ret_b (R1.out fun j hj => HA.out j (by omega)).symm, X1.out.trans hx⟩
        · have hn' : (n != 0) = true := by simp [hn]
          have R : Hid (isOf (d + 1) t n f = false) := by
            show _ = _
            simp [isOf, hz, hn]
          clear hlen hz
          go_enter Tryd.func31, Tryd.ntmps31
          go_wp2_with fail
          go_ret
          exact ⟨ret_b R.out.symm, (Ex.new _ _).alloc _⟩
    · have hl' : ((len f : Int) != (len t : Int)) = true := by simp; omega
      have R : Hid (isOf (d + 1) t n f = false) := by
        show _ = _
        simp [isOf, hlen]
      clear hlen
      go_enter Tryd.func31, Tryd.ntmps31
      go_wp2_with fail
      go_ret
      exact ⟨ret_b R.out.symm, (Ex.new _ _).alloc _⟩

end Go.Proofs.YtngheeeadekdmaaDoor
