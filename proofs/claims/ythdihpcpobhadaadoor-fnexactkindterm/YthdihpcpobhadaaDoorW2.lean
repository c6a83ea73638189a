/- Walks: types are ok, by the program and by the specification. -/
import Derived.Test.YthdihpcpobhadaaDoorW1

namespace Go.Proofs.YthdihpcpobhadaaDoor

open Go.RowKit Go.Deep

theorem fits_two {r : Nat} {f : F} (h : len f = 2) : fits (r + 1) f = (fits r (kid f 0) && fits r (kid f 1)) := by simp [fits, h]
theorem fits_nil {r : Nat} {f : F} (h : len f = 0) : fits (r + 1) f = true := by simp [fits, h]
theorem fits_no {r : Nat} {f : F} (h : len f ≠ 0) (h2 : len f ≠ 2) : fits r f = false := by cases r <;> simp [fits, h, h2]
theorem fits_all {r : Nat} {f : F} (hl : len f = 0 ∨ len f = 2) (h : ∀ j, j < len f → fits r (kid f j) = true) : fits (r + 1) f = true := by
  rcases hl with hl | hl
  · exact fits_nil hl
  · rw [fits_two hl, h 0 (by omega), h 1 (by omega)]; rfl
theorem fits_bad {r : Nat} {f : F} (hl : len f = 0 ∨ len f = 2) {j : Nat} (hj : j < len f) (h : fits r (kid f j) = false) : fits (r + 1) f = false := by
  rcases hl with hl | hl
  · omega
  · rw [fits_two hl]
    have : j = 0 ∨ j = 1 := by omega
    rcases this with rfl | rfl <;> simp [h]

set_option maxHeartbeats 400000 in
theorem l1Deep_any : ∀ (r : Nat) (d : Int) (f : F) (a : Option Addr) (cap : Nat) (lo : Nat) (w : World), d = r → r ≤ 100 → TA w lo f a →
    Calls Tryd.prog 60 #[.agg #[.slice a (len f) cap], .int .i64 d] w fun e w' => e = .returned (.bool (fits r f)) ∧ Ex w w'
  | 0, d, f, a, cap, lo, w, hd, hr, hT => by
    subst hd
    go_enter Tryd.func60, Tryd.ntmps60
    go_wp2_with fail
    go_ret
    exact ⟨rfl, Ex.new _ _⟩
  | r + 1, d, f, a, cap, lo, w, hd, hr, hT => by
    have T : Hid (TA w lo f a) := hT
    have I : Hid _ := l1Deep_any r
    have D : Hid (d = (r + 1 : Nat)) := hd
    have hd1 : 1 ≤ d := by omega
    have hd2 : d ≤ 100 := by omega
    have e1 : decide (d < 1) = false := by simp; omega
    clear hT hd
    by_cases hl : len f = 0 ∨ len f = 2
    · have L : Hid (len f = 0 ∨ len f = 2) := hl
      rcases hl with hl | hl
      · go_enter Tryd.func60, Tryd.ntmps60
        go_wp2_with fail
        go_loopw [5] (fun i wr => i = .int .i64 0 ∧ Ex (w.alloc (.cells #[.slice a (len f) cap] 32)) wr) (fun i _ => 0)
        case atStart => exact ⟨rfl, by rw [hl]; exact Ex.refl _⟩
        case round =>
          obtain ⟨rfl, hx⟩ := hrel
          have hbx : wr.cell? ⟨w.heap.size, 0, none⟩ = some (.slice a (len f) cap) := Ex.at hx (by simp)
          go_wp2_with fail
          go_ret
          exact ⟨ret_b (fits_nil hl).symm, (Ex.new _ _).trans hx⟩
      · have e0 : ((len f : Int) != 0) = true := by simp [hl]
        have e2 : ((len f : Int) != 2) = false := by simp [hl]
        have hb : len f ≤ 2 := by omega
        clear hl
        go_enter Tryd.func60, Tryd.ntmps60
        go_wp2_with fail
        go_loopw [5] (fun i wr => ∃ k : Nat, k ≤ len f ∧ i = .int .i64 k ∧ Ex (w.alloc (.cells #[.slice a (len f) cap] 32)) wr ∧ ∀ j, j < k → fits r (kid f j) = true) (fun i _ => len f - (intOf i).toNat)
        case atStart => exact ⟨0, Nat.zero_le _, rfl, Ex.refl _, fun j hj => by omega⟩
        case round =>
          obtain ⟨k, hk, rfl, hx, hfit⟩ := hrel
          have hbx : wr.cell? ⟨w.heap.size, 0, none⟩ = some (.slice a (len f) cap) := Ex.at hx (by simp)
          have hw : Ex w wr := (Ex.new _ _).trans hx
          have FT : Hid (∀ j, j < k → fits r (kid f j) = true) := hfit
          clear hfit
          by_cases hlt : k < len f
          · obtain ⟨b, o, rfl, hlo, hbs, hkk⟩ := TA_at (TA_below T.out hw) (by omega)
            obtain ⟨a0, c0, hc0, ht0⟩ := hkk k hlt
            clear hkk
            have T0 : Hid (TA wr lo (kid f k) a0) := ht0
            clear ht0
            go_wp2_with fail
            refine (I.out _ _ _ _ _ _ (by have := D.out; omega) (by omega) T0.out).mono ?_
            rintro e w1 ⟨rfl, hb1⟩
            cases hfk : fits r (kid f k)
            · go_wp2_with fail
              go_ret
              exact ⟨ret_b (fits_bad L.out hlt hfk).symm, hw.trans hb1⟩
            · go_wp2_with fail
              go_roundw
              case rel => exact ⟨k + 1, by omega, by go_num, hx.trans hb1, fun j hj => by
                by_cases hj' : j < k
                · exact FT.out j hj'
                · rw [show j = k by omega]; exact hfk⟩
              case measure => simp [intOf]; omega
          · go_wp2_with fail
            go_ret
            exact ⟨ret_b (fits_all L.out fun j hj => FT.out j (by omega)).symm, hw⟩
    · have e0 : ((len f : Int) != 0) = true := by simp; omega
      have e2 : ((len f : Int) != 2) = true := by simp; omega
      go_enter Tryd.func60, Tryd.ntmps60
      go_wp2_with fail
      go_ret
      exact ⟨ret_b (fits_no (by omega) (by omega)).symm, Ex.new _ _⟩

theorem iTypeOk_any (f : F) (a : Option Addr) (cap lo : Nat) (w : World) (h : TA w lo f a) :
    Calls Tryd.prog 11 #[.agg #[.slice a (len f) cap]] w fun e w' => e = .returned (.bool (fits 4 f)) ∧ Ex w w' := by
  have T : Hid (TA w lo f a) := h
  clear h
  go_enter Tryd.func11, Tryd.ntmps11
  go_wp2_with fail
  refine (typeFits_any 4 _ _ _ _ _ (by omega) (TA_below T.out (Ex.new _ _))).mono ?_
  rintro e w1 ⟨rfl, hb1⟩
  go_wp2_with fail
  go_ret
  exact ⟨rfl, (Ex.new _ _).trans hb1⟩

theorem sTypeOk_any (f : F) (a : Option Addr) (cap lo : Nat) (w : World) (h : TA w lo f a) :
    Calls Tryd.prog 37 #[.agg #[.slice a (len f) cap]] w fun e w' => e = .returned (.bool (fits 4 f)) ∧ Ex w w' := by
  have T : Hid (TA w lo f a) := h
  clear h
  go_enter Tryd.func37, Tryd.ntmps37
  go_wp2_with fail
  refine (l1Deep_any 4 _ _ _ _ _ _ rfl (by omega) (TA_below T.out (Ex.new _ _))).mono ?_
  rintro e w1 ⟨rfl, hb1⟩
  go_wp2_with fail
  go_ret
  exact ⟨rfl, (Ex.new _ _).trans hb1⟩

end Go.Proofs.YthdihpcpobhadaaDoor
