/- Walks: the program's names, paths and terms that are ok. -/
import Derived.Test.YthdihpcpobhadaaDoorBD3

namespace Go.Proofs.YthdihpcpobhadaaDoor

open Go.RowKit Go.Deep

attribute [local go_sem ↓] Go.wp_at_zero Go.wp_at_succ

set_option maxHeartbeats 2000000 in
theorem nameByte_any (n : Nat) (w : World) : Calls Tryd.prog 80 #[.int .u8 (n : Int)] w fun e w' => e = .returned (.bool (wletter n)) ∧ Ex w w' := by
  rcases byte_class n with h | h | h | h | h | h | h | h | h
  · have L : Hid (wletter n = false) := by show wletter n = _; simp [wletter]; omega
    have w0 : decide ((97 : Int) ≤ (n : Int)) = false := by simp; omega
    have w1 : decide ((n : Int) ≤ 122) = true := by simp; omega
    have w2 : decide ((65 : Int) ≤ (n : Int)) = false := by simp; omega
    have w3 : decide ((n : Int) ≤ 90) = true := by simp; omega
    have w4 : decide ((48 : Int) ≤ (n : Int)) = false := by simp; omega
    have w5 : decide ((n : Int) ≤ 57) = true := by simp; omega
    have w6 : ((n : Int) == 95) = false := by simp; omega
    clear h
    go_enter Tryd.func80, Tryd.ntmps80
    go_wp2_with fail
    go_ret
    exact ⟨ret_b L.out.symm, Ex.refl _⟩
  · have L : Hid (wletter n = true) := by show wletter n = _; simp [wletter]; omega
    have w0 : decide ((97 : Int) ≤ (n : Int)) = false := by simp; omega
    have w1 : decide ((n : Int) ≤ 122) = true := by simp; omega
    have w2 : decide ((65 : Int) ≤ (n : Int)) = false := by simp; omega
    have w3 : decide ((n : Int) ≤ 90) = true := by simp; omega
    have w4 : decide ((48 : Int) ≤ (n : Int)) = true := by simp; omega
    have w5 : decide ((n : Int) ≤ 57) = true := by simp; omega
    have w6 : ((n : Int) == 95) = false := by simp; omega
    clear h
    go_enter Tryd.func80, Tryd.ntmps80
    go_wp2_with fail
    go_ret
    exact ⟨ret_b L.out.symm, Ex.refl _⟩
  · have L : Hid (wletter n = false) := by show wletter n = _; simp [wletter]; omega
    have w0 : decide ((97 : Int) ≤ (n : Int)) = false := by simp; omega
    have w1 : decide ((n : Int) ≤ 122) = true := by simp; omega
    have w2 : decide ((65 : Int) ≤ (n : Int)) = false := by simp; omega
    have w3 : decide ((n : Int) ≤ 90) = true := by simp; omega
    have w4 : decide ((48 : Int) ≤ (n : Int)) = true := by simp; omega
    have w5 : decide ((n : Int) ≤ 57) = false := by simp; omega
    have w6 : ((n : Int) == 95) = false := by simp; omega
    clear h
    go_enter Tryd.func80, Tryd.ntmps80
    go_wp2_with fail
    go_ret
    exact ⟨ret_b L.out.symm, Ex.refl _⟩
  · have L : Hid (wletter n = true) := by show wletter n = _; simp [wletter]; omega
    have w0 : decide ((97 : Int) ≤ (n : Int)) = false := by simp; omega
    have w1 : decide ((n : Int) ≤ 122) = true := by simp; omega
    have w2 : decide ((65 : Int) ≤ (n : Int)) = true := by simp; omega
    have w3 : decide ((n : Int) ≤ 90) = true := by simp; omega
    have w4 : decide ((48 : Int) ≤ (n : Int)) = true := by simp; omega
    have w5 : decide ((n : Int) ≤ 57) = false := by simp; omega
    have w6 : ((n : Int) == 95) = false := by simp; omega
    clear h
    go_enter Tryd.func80, Tryd.ntmps80
    go_wp2_with fail
    go_ret
    exact ⟨ret_b L.out.symm, Ex.refl _⟩
  · have L : Hid (wletter n = false) := by show wletter n = _; simp [wletter]; omega
    have w0 : decide ((97 : Int) ≤ (n : Int)) = false := by simp; omega
    have w1 : decide ((n : Int) ≤ 122) = true := by simp; omega
    have w2 : decide ((65 : Int) ≤ (n : Int)) = true := by simp; omega
    have w3 : decide ((n : Int) ≤ 90) = false := by simp; omega
    have w4 : decide ((48 : Int) ≤ (n : Int)) = true := by simp; omega
    have w5 : decide ((n : Int) ≤ 57) = false := by simp; omega
    have w6 : ((n : Int) == 95) = false := by simp; omega
    clear h
    go_enter Tryd.func80, Tryd.ntmps80
    go_wp2_with fail
    go_ret
    exact ⟨ret_b L.out.symm, Ex.refl _⟩
  · have L : Hid (wletter n = true) := by show wletter n = _; simp [wletter]; omega
    have w0 : decide ((97 : Int) ≤ (n : Int)) = false := by simp; omega
    have w1 : decide ((n : Int) ≤ 122) = true := by simp; omega
    have w2 : decide ((65 : Int) ≤ (n : Int)) = true := by simp; omega
    have w3 : decide ((n : Int) ≤ 90) = false := by simp; omega
    have w4 : decide ((48 : Int) ≤ (n : Int)) = true := by simp; omega
    have w5 : decide ((n : Int) ≤ 57) = false := by simp; omega
    have w6 : ((n : Int) == 95) = true := by simp; omega
    clear h
    go_enter Tryd.func80, Tryd.ntmps80
    go_wp2_with fail
    go_ret
    exact ⟨ret_b L.out.symm, Ex.refl _⟩
  · have L : Hid (wletter n = false) := by show wletter n = _; simp [wletter]; omega
    have w0 : decide ((97 : Int) ≤ (n : Int)) = false := by simp; omega
    have w1 : decide ((n : Int) ≤ 122) = true := by simp; omega
    have w2 : decide ((65 : Int) ≤ (n : Int)) = true := by simp; omega
    have w3 : decide ((n : Int) ≤ 90) = false := by simp; omega
    have w4 : decide ((48 : Int) ≤ (n : Int)) = true := by simp; omega
    have w5 : decide ((n : Int) ≤ 57) = false := by simp; omega
    have w6 : ((n : Int) == 95) = false := by simp; omega
    clear h
    go_enter Tryd.func80, Tryd.ntmps80
    go_wp2_with fail
    go_ret
    exact ⟨ret_b L.out.symm, Ex.refl _⟩
  · have L : Hid (wletter n = true) := by show wletter n = _; simp [wletter]; omega
    have w0 : decide ((97 : Int) ≤ (n : Int)) = true := by simp; omega
    have w1 : decide ((n : Int) ≤ 122) = true := by simp; omega
    have w2 : decide ((65 : Int) ≤ (n : Int)) = true := by simp; omega
    have w3 : decide ((n : Int) ≤ 90) = false := by simp; omega
    have w4 : decide ((48 : Int) ≤ (n : Int)) = true := by simp; omega
    have w5 : decide ((n : Int) ≤ 57) = false := by simp; omega
    have w6 : ((n : Int) == 95) = false := by simp; omega
    clear h
    go_enter Tryd.func80, Tryd.ntmps80
    go_wp2_with fail
    go_ret
    exact ⟨ret_b L.out.symm, Ex.refl _⟩
  · have L : Hid (wletter n = false) := by show wletter n = _; simp [wletter]; omega
    have w0 : decide ((97 : Int) ≤ (n : Int)) = true := by simp; omega
    have w1 : decide ((n : Int) ≤ 122) = false := by simp; omega
    have w2 : decide ((65 : Int) ≤ (n : Int)) = true := by simp; omega
    have w3 : decide ((n : Int) ≤ 90) = false := by simp; omega
    have w4 : decide ((48 : Int) ≤ (n : Int)) = true := by simp; omega
    have w5 : decide ((n : Int) ≤ 57) = false := by simp; omega
    have w6 : ((n : Int) == 95) = false := by simp; omega
    clear h
    go_enter Tryd.func80, Tryd.ntmps80
    go_wp2_with fail
    go_ret
    exact ⟨ret_b L.out.symm, Ex.refl _⟩

set_option maxHeartbeats 2000000 in
theorem nameOk_any (s : ByteArray) (w : World) : Calls Tryd.prog 71 #[.string s] w fun e w' => e = .returned (.bool (wordB s)) ∧ Ex w w' := by
  by_cases h1 : s.size < 1
  · have HR : Hid (wordB s = false) := wordB_size (Or.inl h1)
    have d1 : s.toList.isEmpty = true := empty_size (by omega)
    go_enter Tryd.func71, Tryd.ntmps71
    go_wp2_with fail
    go_ret
    exact ⟨ret_b HR.out.symm, Ex.refl _⟩
  have d1 : s.toList.isEmpty = false := full_size (by omega)
  by_cases h6 : 12 < s.size
  · have HR : Hid (wordB s = false) := wordB_size (Or.inr h6)
    have d2 : decide ((12 : Int) < (s.size : Int)) = true := by simp; omega
    go_enter Tryd.func71, Tryd.ntmps71
    go_wp2_with fail
    go_ret
    exact ⟨ret_b HR.out.symm, Ex.refl _⟩
  have d2 : decide ((12 : Int) < (s.size : Int)) = false := by simp; omega
  go_enter Tryd.func71, Tryd.ntmps71
  go_wp2_with fail
  go_loopw [3, 13] (fun _ i wr => ∃ (k : Nat), k ≤ s.size ∧ i = .int .i64 k ∧ (∀ j, j < k → wletter (wbt s j) = true) ∧ Ex w wr) (fun _ i _ => s.size - (intOf i).toNat)
  case atStart => exact ⟨0, by omega, rfl, fun j hj => by omega, Ex.refl _⟩
  case round =>
    obtain ⟨k, hk, rfl, hall, hx⟩ := hrel
    have A : Hid (∀ j, j < k → wletter (wbt s j) = true) := hall
    have X : Hid (Ex w wr) := hx
    clear hall hx
    by_cases hlt : k < s.size
    · have N : Hid (wletter (wbt s k) = false → wordB s = false) := wordB_no hlt
      have U : Hid (wletter (wbt s k) = true → ∀ j, j < k + 1 → wletter (wbt s j) = true) := fun h => upto_succ A.out h
      have HB : Hid _ := nameByte_any (wbt s k) wr
      rw [← wbt_at s k hlt] at HB N U
      have i0 : (0 : Int) ≤ (k : Int) := by omega
      have i1 : (k : Int) < (s.size : Int) := by omega
      go_wp2_with fail
      refine Calls.mono HB.out ?_
      rintro e w1 ⟨rfl, hb1⟩
      clear HB
      cases hL : wletter ((s[k]'hlt).toNat) with
      | false =>
        have HR : Hid (wordB s = false) := N.out hL
        go_wp2_with fail
        go_ret
        exact ⟨ret_b HR.out.symm, X.out.trans hb1⟩
      | true =>
        have HU : Hid _ := U.out hL
        clear hL
        go_wp2_with fail
        go_roundw
        case rel => exact ⟨k + 1, by omega, by go_num, HU.out, X.out.trans hb1⟩
        case measure => simp [intOf]; omega
    · have HR : Hid (wordB s = true) := wordB_yes (by omega) (by omega) fun i hi => A.out i (by omega)
      go_wp2_with fail
      go_ret
      exact ⟨ret_b HR.out.symm, X.out⟩

set_option maxHeartbeats 1000000 in
theorem pathOk_any (p : List Int) (a : Option Addr) (c : Nat) (w : World) (hP : PA w 0 p a) : Calls Tryd.prog 81 #[.slice a p.length c] w fun e w' => e = .returned (.bool (decide (p.length ≤ 4) && pathB p)) ∧ Ex w w' := by
  have P : Hid (∀ w', Ex w w' → PA w' 0 p a) := fun _ h => PA_below hP h
  clear hP
  by_cases h4 : 4 < p.length
  · have HR : Hid ((decide (p.length ≤ 4) && pathB p) = false) := by show _ = _; rw [decide_eq_false (by omega)]; rfl
    have d1 : decide ((4 : Int) < (p.length : Int)) = true := decide_eq_true (by omega)
    go_enter Tryd.func81, Tryd.ntmps81
    go_wp2_with fail
    go_ret
    exact ⟨ret_b HR.out.symm, Ex.refl _⟩
  have HD : Hid ((decide (p.length ≤ 4) && pathB p) = pathB p) := by show _ = _; rw [decide_eq_true (by omega)]; rfl
  have d1 : decide ((4 : Int) < (p.length : Int)) = false := decide_eq_false (by omega)
  go_enter Tryd.func81, Tryd.ntmps81
  go_wp2_with fail
  go_loopw [4, 10] (fun _ i wr => ∃ (j : Nat), j ≤ p.length ∧ i = .int .i64 j ∧ (∀ l, l < j → 0 ≤ p.getD l 0 ∧ p.getD l 0 ≤ 1) ∧ Ex w wr) (fun _ i _ => p.length - (intOf i).toNat)
  case atStart => exact ⟨0, by omega, rfl, fun j hj => by omega, Ex.refl _⟩
  case round =>
    obtain ⟨j, hj, rfl, hall, hx⟩ := hrel
    have A : Hid (∀ l, l < j → 0 ≤ p.getD l 0 ∧ p.getD l 0 ≤ 1) := hall
    have X : Hid (Ex w wr) := hx
    clear hall hx
    by_cases hlt : j < p.length
    · obtain ⟨b, o, rfl, hbs, _, hc⟩ := PA_at (P.out wr X.out) (by omega)
      have ck := hc j hlt
      have U : Hid ((0 ≤ p.getD j 0 ∧ p.getD j 0 ≤ 1) → ∀ l, l < j + 1 → 0 ≤ p.getD l 0 ∧ p.getD l 0 ≤ 1) := fun h => upto_succ A.out h
      have V : Hid (¬ (0 ≤ p.getD j 0 ∧ p.getD j 0 ≤ 1) → pathB p = false) := fun h => pathB_no hlt h
      obtain ⟨x, hxe⟩ : ∃ x, p.getD j 0 = x := ⟨_, rfl⟩
      rw [hxe] at ck U V
      clear hxe hc
      by_cases hx0 : x = 0
      · have HU : Hid _ := U.out (by omega)
        have e0 : (x != 0) = false := by simp [hx0]
        have X0 : Hid (x = 0) := hx0
        clear hx0 U V
        go_wp2_with fail
        go_roundw
        case rel => exact ⟨j + 1, by omega, by go_num, HU.out, X.out⟩
        case measure => simp [intOf]; omega
      have e0 : (x != 0) = true := by simp [hx0]
      by_cases hx1 : x = 1
      · have HU : Hid _ := U.out (by omega)
        have e1 : (x != 1) = false := by simp [hx1]
        have X0 : Hid (x = 1) := hx1
        clear hx0 hx1 U V
        go_wp2_with fail
        go_roundw
        case rel => exact ⟨j + 1, by omega, by go_num, HU.out, X.out⟩
        case measure => simp [intOf]; omega
      have e1 : (x != 1) = true := by simp [hx1]
      have HR : Hid ((decide (p.length ≤ 4) && pathB p) = false) := HD.out.trans (V.out (by omega))
      clear U V
      go_wp2_with fail
      go_ret
      exact ⟨ret_b HR.out.symm, X.out⟩
    · have HR : Hid ((decide (p.length ≤ 4) && pathB p) = true) := HD.out.trans (pathB_yes fun l hl => A.out l (by omega))
      go_wp2_with fail
      go_ret
      exact ⟨ret_b HR.out.symm, X.out⟩

end Go.Proofs.YthdihpcpobhadaaDoor
