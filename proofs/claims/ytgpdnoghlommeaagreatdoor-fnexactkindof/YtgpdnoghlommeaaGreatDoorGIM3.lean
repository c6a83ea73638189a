/- Walks: the program's names, paths and terms that are ok. Walks: the program's terms that have just what their kinds say. Walks: names counted in a map. -/
import Derived.Test.YtgpdnoghlommeaaGreatDoorGBD3
import Derived.Deep.RegionHeld3
import Derived.Test.YtgpdnoghlommeaaGreatDoorGD3
import Derived.Maps.Own
import Derived.Maps.OwnOps
import Derived.Maps.OwnSet
namespace Go.Proofs.YtgpdnoghlommeaaGreatDoor

open Go.RowKit Go.Deep

attribute [local go_sem ↓] Go.wp_at_zero Go.wp_at_succ

set_option maxHeartbeats 2000000 in
theorem nameByte_any (n : Nat) (w : World) : Calls Tryz.prog 134 #[.int .u8 (n : Int)] w fun e w' => e = .returned (.bool (wletter n)) ∧ Ex w w' := by
  rcases byte_class n with h | h | h | h | h | h | h | h | h
  · have L : Hid (wletter n = false) := by show wletter n = _; simp [wletter]; omega
    have w0 : decide ((97 : Int) ≤ (n : Int)) = false := by simp; omega
    have w1 : decide ((n : Int) ≤ 122) = true := by simp; omega
    have w2 : decide ((65 : Int) ≤ (n : Int)) = false := by simp; omega
    have w3 : decide ((n : Int) ≤ 90) = true := by simp; omega
    have w4 : decide ((48 : Int) ≤ (n : Int)) = false := by simp; omega
    have w5 : decide ((n : Int) ≤ 57) = true := by simp; omega
    have w6 : ((n : Int) == 95) = false := by simp; omega
    clear h
    go_enter Tryz.func134, Tryz.ntmps134
    go_wp2_with fail
    go_ret
    exact ⟨ret_b L.out.symm, Ex.refl _⟩
  · have L : Hid (wletter n = true) := by show wletter n = _; simp [wletter]; omega
    have w0 : decide ((97 : Int) ≤ (n : Int)) = false := by simp; omega
    have w1 : decide ((n : Int) ≤ 122) = true := by simp; omega
    have w2 : decide ((65 : Int) ≤ (n : Int)) = false := by simp; omega
    have w3 : decide ((n : Int) ≤ 90) = true := by simp; omega
    have w4 : decide ((48 : Int) ≤ (n : Int)) = true := by simp; omega
    have w5 : decide ((n : Int) ≤ 57) = true := by simp; omega
    have w6 : ((n : Int) == 95) = false := by simp; omega
    clear h
    go_enter Tryz.func134, Tryz.ntmps134
    go_wp2_with fail
    go_ret
    exact ⟨ret_b L.out.symm, Ex.refl _⟩
  · have L : Hid (wletter n = false) := by show wletter n = _; simp [wletter]; omega
    have w0 : decide ((97 : Int) ≤ (n : Int)) = false := by simp; omega
    have w1 : decide ((n : Int) ≤ 122) = true := by simp; omega
    have w2 : decide ((65 : Int) ≤ (n : Int)) = false := by simp; omega
    have w3 : decide ((n : Int) ≤ 90) = true := by simp; omega
    have w4 : decide ((48 : Int) ≤ (n : Int)) = true := by simp; omega
    have w5 : decide ((n : Int) ≤ 57) = false := by simp; omega
    have w6 : ((n : Int) == 95) = false := by simp; omega
    clear h
    go_enter Tryz.func134, Tryz.ntmps134
    go_wp2_with fail
    go_ret
    exact ⟨ret_b L.out.symm, Ex.refl _⟩
  · have L : Hid (wletter n = true) := by show wletter n = _; simp [wletter]; omega
    have w0 : decide ((97 : Int) ≤ (n : Int)) = false := by simp; omega
    have w1 : decide ((n : Int) ≤ 122) = true := by simp; omega
    have w2 : decide ((65 : Int) ≤ (n : Int)) = true := by simp; omega
    have w3 : decide ((n : Int) ≤ 90) = true := by simp; omega
    have w4 : decide ((48 : Int) ≤ (n : Int)) = true := by simp; omega
    have w5 : decide ((n : Int) ≤ 57) = false := by simp; omega
    have w6 : ((n : Int) == 95) = false := by simp; omega
    clear h
    go_enter Tryz.func134, Tryz.ntmps134
    go_wp2_with fail
    go_ret
    exact ⟨ret_b L.out.symm, Ex.refl _⟩
  · have L : Hid (wletter n = false) := by show wletter n = _; simp [wletter]; omega
    have w0 : decide ((97 : Int) ≤ (n : Int)) = false := by simp; omega
    have w1 : decide ((n : Int) ≤ 122) = true := by simp; omega
    have w2 : decide ((65 : Int) ≤ (n : Int)) = true := by simp; omega
    have w3 : decide ((n : Int) ≤ 90) = false := by simp; omega
    have w4 : decide ((48 : Int) ≤ (n : Int)) = true := by simp; omega
    have w5 : decide ((n : Int) ≤ 57) = false := by simp; omega
    have w6 : ((n : Int) == 95) = false := by simp; omega
    clear h
    go_enter Tryz.func134, Tryz.ntmps134
    go_wp2_with fail
    go_ret
    exact ⟨ret_b L.out.symm, Ex.refl _⟩
  · have L : Hid (wletter n = true) := by show wletter n = _; simp [wletter]; omega
    have w0 : decide ((97 : Int) ≤ (n : Int)) = false := by simp; omega
    have w1 : decide ((n : Int) ≤ 122) = true := by simp; omega
    have w2 : decide ((65 : Int) ≤ (n : Int)) = true := by simp; omega
    have w3 : decide ((n : Int) ≤ 90) = false := by simp; omega
    have w4 : decide ((48 : Int) ≤ (n : Int)) = true := by simp; omega
    have w5 : decide ((n : Int) ≤ 57) = false := by simp; omega
    have w6 : ((n : Int) == 95) = true := by simp; omega
    clear h
    go_enter Tryz.func134, Tryz.ntmps134
    go_wp2_with fail
    go_ret
    exact ⟨ret_b L.out.symm, Ex.refl _⟩
  · have L : Hid (wletter n = false) := by show wletter n = _; simp [wletter]; omega
    have w0 : decide ((97 : Int) ≤ (n : Int)) = false := by simp; omega
    have w1 : decide ((n : Int) ≤ 122) = true := by simp; omega
    have w2 : decide ((65 : Int) ≤ (n : Int)) = true := by simp; omega
    have w3 : decide ((n : Int) ≤ 90) = false := by simp; omega
    have w4 : decide ((48 : Int) ≤ (n : Int)) = true := by simp; omega
    have w5 : decide ((n : Int) ≤ 57) = false := by simp; omega
    have w6 : ((n : Int) == 95) = false := by simp; omega
    clear h
    go_enter Tryz.func134, Tryz.ntmps134
    go_wp2_with fail
    go_ret
    exact ⟨ret_b L.out.symm, Ex.refl _⟩
  · have L : Hid (wletter n = true) := by show wletter n = _; simp [wletter]; omega
    have w0 : decide ((97 : Int) ≤ (n : Int)) = true := by simp; omega
    have w1 : decide ((n : Int) ≤ 122) = true := by simp; omega
    have w2 : decide ((65 : Int) ≤ (n : Int)) = true := by simp; omega
    have w3 : decide ((n : Int) ≤ 90) = false := by simp; omega
    have w4 : decide ((48 : Int) ≤ (n : Int)) = true := by simp; omega
    have w5 : decide ((n : Int) ≤ 57) = false := by simp; omega
    have w6 : ((n : Int) == 95) = false := by simp; omega
    clear h
    go_enter Tryz.func134, Tryz.ntmps134
    go_wp2_with fail
    go_ret
    exact ⟨ret_b L.out.symm, Ex.refl _⟩
  · have L : Hid (wletter n = false) := by show wletter n = _; simp [wletter]; omega
    have w0 : decide ((97 : Int) ≤ (n : Int)) = true := by simp; omega
    have w1 : decide ((n : Int) ≤ 122) = false := by simp; omega
    have w2 : decide ((65 : Int) ≤ (n : Int)) = true := by simp; omega
    have w3 : decide ((n : Int) ≤ 90) = false := by simp; omega
    have w4 : decide ((48 : Int) ≤ (n : Int)) = true := by simp; omega
    have w5 : decide ((n : Int) ≤ 57) = false := by simp; omega
    have w6 : ((n : Int) == 95) = false := by simp; omega
    clear h
    go_enter Tryz.func134, Tryz.ntmps134
    go_wp2_with fail
    go_ret
    exact ⟨ret_b L.out.symm, Ex.refl _⟩

set_option maxHeartbeats 2000000 in
theorem nameOk_any (s : ByteArray) (w : World) : Calls Tryz.prog 110 #[.string s] w fun e w' => e = .returned (.bool (wordB s)) ∧ Ex w w' := by
  by_cases h1 : s.size < 1
  · have HR : Hid (wordB s = false) := wordB_size (Or.inl h1)
    have d1 : s.toList.isEmpty = true := empty_size (by omega)
    go_enter Tryz.func110, Tryz.ntmps110
    go_wp2_with fail
    go_ret
    exact ⟨ret_b HR.out.symm, Ex.refl _⟩
  have d1 : s.toList.isEmpty = false := full_size (by omega)
  by_cases h6 : 12 < s.size
  · have HR : Hid (wordB s = false) := wordB_size (Or.inr h6)
    have d2 : decide ((12 : Int) < (s.size : Int)) = true := by simp; omega
    go_enter Tryz.func110, Tryz.ntmps110
    go_wp2_with fail
    go_ret
    exact ⟨ret_b HR.out.symm, Ex.refl _⟩
  have d2 : decide ((12 : Int) < (s.size : Int)) = false := by simp; omega
  go_enter Tryz.func110, Tryz.ntmps110
  go_wp2_with fail
  go_loopw [3, 13] (fun _ i wr => ∃ (k : Nat), k ≤ s.size ∧ i = .int .i64 k ∧ (∀ j, j < k → wletter (wbt s j) = true) ∧ Ex w wr) (fun _ i _ => s.size - (intOf i).toNat)
  case atStart => exact ⟨0, by omega, rfl, fun j hj => by omega, Ex.refl _⟩
  case round =>
    obtain ⟨k, hk, rfl, hall, hx⟩ := hrel
    have A : Hid (∀ j, j < k → wletter (wbt s j) = true) := hall
    have X : Hid (Ex w wr) := hx
    clear hall hx
    by_cases hlt : k < s.size
    · have N : Hid (wletter (wbt s k) = false → wordB s = false) := wordB_no hlt
      have U : Hid (wletter (wbt s k) = true → ∀ j, j < k + 1 → wletter (wbt s j) = true) := fun h => upto_succ A.out h
      have HB : Hid _ := nameByte_any (wbt s k) wr
      rw [← wbt_at s k hlt] at HB N U
      have i0 : (0 : Int) ≤ (k : Int) := by omega
      have i1 : (k : Int) < (s.size : Int) := by omega
      go_wp2_with fail
      refine Calls.mono HB.out ?_
      rintro e w1 ⟨rfl, hb1⟩
      clear HB
      cases hL : wletter ((s[k]'hlt).toNat) with
      | false =>
        have HR : Hid (wordB s = false) := N.out hL
        go_wp2_with fail
        go_ret
        exact ⟨ret_b HR.out.symm, X.out.trans hb1⟩
      | true =>
        have HU : Hid _ := U.out hL
        clear hL
        go_wp2_with fail
        go_roundw
        case rel => exact ⟨k + 1, by omega, by go_num, HU.out, X.out.trans hb1⟩
        case measure => simp [intOf]; omega
    · have HR : Hid (wordB s = true) := wordB_yes (by omega) (by omega) fun i hi => A.out i (by omega)
      go_wp2_with fail
      go_ret
      exact ⟨ret_b HR.out.symm, X.out⟩

set_option maxHeartbeats 1000000 in
theorem pathOk_any (p : List Int) (a : Option Addr) (c : Nat) (w : World) (hP : PA w 0 p a) : Calls Tryz.prog 167 #[.slice a p.length c] w fun e w' => e = .returned (.bool (decide (p.length ≤ 4) && pathB p)) ∧ Ex w w' := by
  have P : Hid (∀ w', Ex w w' → PA w' 0 p a) := fun _ h => PA_below hP h
  clear hP
  by_cases h4 : 4 < p.length
  · have HR : Hid ((decide (p.length ≤ 4) && pathB p) = false) := by show _ = _; rw [decide_eq_false (by omega)]; rfl
    have d1 : decide ((4 : Int) < (p.length : Int)) = true := decide_eq_true (by omega)
    go_enter Tryz.func167, Tryz.ntmps167
    go_wp2_with fail
    go_ret
    exact ⟨ret_b HR.out.symm, Ex.refl _⟩
  have HD : Hid ((decide (p.length ≤ 4) && pathB p) = pathB p) := by show _ = _; rw [decide_eq_true (by omega)]; rfl
  have d1 : decide ((4 : Int) < (p.length : Int)) = false := decide_eq_false (by omega)
  go_enter Tryz.func167, Tryz.ntmps167
  go_wp2_with fail
  go_loopw [4, 10] (fun _ i wr => ∃ (j : Nat), j ≤ p.length ∧ i = .int .i64 j ∧ (∀ l, l < j → 0 ≤ p.getD l 0 ∧ p.getD l 0 ≤ 1) ∧ Ex w wr) (fun _ i _ => p.length - (intOf i).toNat)
  case atStart => exact ⟨0, by omega, rfl, fun j hj => by omega, Ex.refl _⟩
  case round =>
    obtain ⟨j, hj, rfl, hall, hx⟩ := hrel
    have A : Hid (∀ l, l < j → 0 ≤ p.getD l 0 ∧ p.getD l 0 ≤ 1) := hall
    have X : Hid (Ex w wr) := hx
    clear hall hx
    by_cases hlt : j < p.length
    · obtain ⟨b, o, rfl, hbs, _, hc⟩ := PA_at (P.out wr X.out) (by omega)
      have ck := hc j hlt
      have U : Hid ((0 ≤ p.getD j 0 ∧ p.getD j 0 ≤ 1) → ∀ l, l < j + 1 → 0 ≤ p.getD l 0 ∧ p.getD l 0 ≤ 1) := fun h => upto_succ A.out h
      have V : Hid (¬ (0 ≤ p.getD j 0 ∧ p.getD j 0 ≤ 1) → pathB p = false) := fun h => pathB_no hlt h
      obtain ⟨x, hxe⟩ : ∃ x, p.getD j 0 = x := ⟨_, rfl⟩
      rw [hxe] at ck U V
      clear hxe hc
      by_cases hx0 : x = 0
      · have HU : Hid _ := U.out (by omega)
        have e0 : (x != 0) = false := by simp [hx0]
        have X0 : Hid (x = 0) := hx0
        clear hx0 U V
        go_wp2_with fail
        go_roundw
        case rel => exact ⟨j + 1, by omega, by go_num, HU.out, X.out⟩
        case measure => simp [intOf]; omega
      have e0 : (x != 0) = true := by simp [hx0]
      by_cases hx1 : x = 1
      · have HU : Hid _ := U.out (by omega)
        have e1 : (x != 1) = false := by simp [hx1]
        have X0 : Hid (x = 1) := hx1
        clear hx0 hx1 U V
        go_wp2_with fail
        go_roundw
        case rel => exact ⟨j + 1, by omega, by go_num, HU.out, X.out⟩
        case measure => simp [intOf]; omega
      have e1 : (x != 1) = true := by simp [hx1]
      have HR : Hid ((decide (p.length ≤ 4) && pathB p) = false) := HD.out.trans (V.out (by omega))
      clear U V
      go_wp2_with fail
      go_ret
      exact ⟨ret_b HR.out.symm, X.out⟩
    · have HR : Hid ((decide (p.length ≤ 4) && pathB p) = true) := HD.out.trans (pathB_yes fun l hl => A.out l (by omega))
      go_wp2_with fail
      go_ret
      exact ⟨ret_b HR.out.symm, X.out⟩

set_option maxHeartbeats 1000000 in
theorem bodyNothing_any (b : BD) (ba : Option Addr) (bc : Nat) (z : TM) (za : Option Addr) (zc : Nat) (w : World) :
    Calls Tryz.prog 159 #[.agg #[.slice ba (blen b) bc, .slice za (tlen z) zc]] w fun e w' => e = .returned (.bool (decide (blen b = 0) && decide (tlen z = 0))) ∧ Ex w w' := by
  by_cases h1 : blen b = 0
  · have e1 : ((blen b : Int) == 0) = true := by rw [beq_iff_eq]; omega
    by_cases h2 : tlen z = 0
    · have e2 : ((tlen z : Int) == 0) = true := by rw [beq_iff_eq]; omega
      have HR : Hid ((decide (blen b = 0) && decide (tlen z = 0)) = true) := by show _ = _; rw [decide_eq_true h1, decide_eq_true h2]; rfl
      clear h1 h2
      go_enter Tryz.func159, Tryz.ntmps159
      go_wp2_with fail
      go_ret
      exact ⟨ret_b HR.out.symm, Ex.new _ _⟩
    · have e2 : ((tlen z : Int) == 0) = false := by rw [beq_eq_false_iff_ne]; omega
      have HR : Hid ((decide (blen b = 0) && decide (tlen z = 0)) = false) := by show _ = _; rw [decide_eq_true h1, decide_eq_false h2]; rfl
      clear h1 h2
      go_enter Tryz.func159, Tryz.ntmps159
      go_wp2_with fail
      go_ret
      exact ⟨ret_b HR.out.symm, Ex.new _ _⟩
  · have e1 : ((blen b : Int) == 0) = false := by rw [beq_eq_false_iff_ne]; omega
    have HR : Hid ((decide (blen b = 0) && decide (tlen z = 0)) = false) := by show _ = _; rw [decide_eq_false h1]; rfl
    clear h1
    go_enter Tryz.func159, Tryz.ntmps159
    go_wp2_with fail
    go_ret
    exact ⟨ret_b HR.out.symm, Ex.new _ _⟩

end Go.Proofs.YtgpdnoghlommeaaGreatDoor

namespace Go.Proofs.YtgpdnoghlommeaaGreatDoor

open Go.RowKit Go.Deep

attribute [local go_sem ↓] Go.wp_at_zero Go.wp_at_succ

/-- A term has just what its kind says, as the program asks it. -/
def tokB (k n : Int) (s : ByteArray) (p : List Int) (l : Nat) : Bool :=
  if k = 1 then decide (s.size = 0) && (decide (p.length = 0) && (decide (l = 0) && (decide (0 ≤ n) && decide (n ≤ 9999))))
  else if k = 2 then decide (n = 0) && (decide (p.length = 0) && decide (l = 0))
  else if k = 3 ∨ k = 4 ∨ k = 5 ∨ k = 6 then decide (n = 0) && (decide (s.size = 0) && (decide (p.length = 0) && decide (l = 2)))
  else if k = 7 then decide (n = 0) && (decide (s.size = 0) && ((decide (p.length ≤ 4) && pathB p) && decide (l = 1)))
  else if k = 8 then decide (n = 0) && (decide (s.size = 0) && ((decide (p.length ≤ 4) && pathB p) && decide (l = 2)))
  else false
theorem tokB_1 {n : Int} {s : ByteArray} {p : List Int} {l : Nat} : tokB 1 n s p l = (decide (s.size = 0) && (decide (p.length = 0) && (decide (l = 0) && (decide (0 ≤ n) && decide (n ≤ 9999))))) := rfl
theorem tokB_2 {n : Int} {s : ByteArray} {p : List Int} {l : Nat} : tokB 2 n s p l = (decide (n = 0) && (decide (p.length = 0) && decide (l = 0))) := rfl
theorem tokB_7 {n : Int} {s : ByteArray} {p : List Int} {l : Nat} : tokB 7 n s p l = (decide (n = 0) && (decide (s.size = 0) && ((decide (p.length ≤ 4) && pathB p) && decide (l = 1)))) := rfl
theorem tokB_8 {n : Int} {s : ByteArray} {p : List Int} {l : Nat} : tokB 8 n s p l = (decide (n = 0) && (decide (s.size = 0) && ((decide (p.length ≤ 4) && pathB p) && decide (l = 2)))) := rfl
theorem tokB_3 {k n : Int} {s : ByteArray} {p : List Int} {l : Nat} (h : k = 3 ∨ k = 4 ∨ k = 5 ∨ k = 6) : tokB k n s p l = (decide (n = 0) && (decide (s.size = 0) && (decide (p.length = 0) && decide (l = 2)))) := by
  unfold tokB; rw [if_neg (by omega), if_neg (by omega), if_pos h]
theorem tokB_o {k n : Int} {s : ByteArray} {p : List Int} {l : Nat} (h : ¬ (1 ≤ k ∧ k ≤ 8)) : tokB k n s p l = false := by
  unfold tokB; rw [if_neg (by omega), if_neg (by omega), if_neg (by omega), if_neg (by omega), if_neg (by omega)]

theorem dec_n (n : Int) : decide (n = 0) = (n == 0) := by
  by_cases h : n = 0
  · rw [decide_eq_true h, beq_iff_eq.mpr h]
  · rw [decide_eq_false h, beq_eq_false_iff_ne.mpr h]
theorem dec_s (s : ByteArray) : decide (s.size = 0) = s.toList.isEmpty := by
  by_cases h : s.size = 0
  · rw [decide_eq_true h, empty_size h]
  · rw [decide_eq_false h, full_size h]
theorem dec_l (l m : Nat) : decide (l = m) = ((l : Int) == (m : Int)) := by
  by_cases h : l = m
  · rw [decide_eq_true h, beq_iff_eq.mpr (by omega)]
  · rw [decide_eq_false h, beq_eq_false_iff_ne.mpr (by omega)]

set_option maxRecDepth 100000 in
set_option maxHeartbeats 4000000 in
theorem termOk_any (k n : Int) (s : ByteArray) (p : List Int) (pa : Option Addr) (pc l : Nat) (a : Option Addr) (c : Nat) (w : World) (hP : PA w 0 p pa) :
    Calls Tryz.prog 160 #[.agg #[.int .i64 k, .int .i64 n, .string s, .slice pa p.length pc, .slice a l c]] w fun e w' => e = .returned (.bool (tokB k n s p l)) ∧ Ex w w' := by
  have P : Hid (∀ w', Ex w w' → PA w' 0 p pa) := fun _ h => PA_below hP h
  have N : Hid (Ex w (w.alloc (.cells #[.int .i64 k, .int .i64 n, .string s, .slice pa p.length pc, .slice a l c] 90))) := Ex.new _ _
  have C : Hid (∀ w', Ex (w.alloc (.cells #[.int .i64 k, .int .i64 n, .string s, .slice pa p.length pc, .slice a l c] 90)) w' → w'.cell? ⟨w.heap.size, 0, none⟩ = some (.int .i64 k) ∧ w'.cell? ⟨w.heap.size, 1, none⟩ = some (.int .i64 n) ∧ w'.cell? ⟨w.heap.size, 2, none⟩ = some (.string s) ∧ w'.cell? ⟨w.heap.size, 3, none⟩ = some (.slice pa p.length pc) ∧ w'.cell? ⟨w.heap.size, 4, none⟩ = some (.slice a l c)) := fun w' h => ⟨h.at (by simp), h.at (by simp), h.at (by simp), h.at (by simp), h.at (by simp)⟩
  have KS : Hid (∀ w', Ex (w.alloc (.cells #[.int .i64 k, .int .i64 n, .string s, .slice pa p.length pc, .slice a l c] 90)) w' → (Ex (w.alloc (.cells #[.int .i64 k, .int .i64 n, .string s, .slice pa p.length pc, .slice a l c] 90)) w' ∧ w'.cell? ⟨w.heap.size, 0, none⟩ = some (.int .i64 k) ∧ w'.cell? ⟨w.heap.size, 1, none⟩ = some (.int .i64 n) ∧ w'.cell? ⟨w.heap.size, 2, none⟩ = some (.string s) ∧ w'.cell? ⟨w.heap.size, 3, none⟩ = some (.slice pa p.length pc) ∧ w'.cell? ⟨w.heap.size, 4, none⟩ = some (.slice a l c))) := fun w' h => ⟨h, C.out w' h⟩
  clear hP
  obtain ⟨R, hR⟩ : ∃ R, R = tokB k n s p l := ⟨_, rfl⟩
  have RR : Hid (R = tokB k n s p l) := hR
  rw [← hR]
  obtain ⟨bn, hbn⟩ : ∃ b, (n == 0) = b := ⟨_, rfl⟩
  obtain ⟨bs, hbs⟩ : ∃ b, s.toList.isEmpty = b := ⟨_, rfl⟩
  obtain ⟨bp, hbp⟩ : ∃ b, ((p.length : Int) == 0) = b := ⟨_, rfl⟩
  have Dn : Hid (decide (n = 0) = bn) := (dec_n n).trans hbn
  have Ds : Hid (decide (s.size = 0) = bs) := (dec_s s).trans hbs
  have Dp : Hid (decide (p.length = 0) = bp) := (dec_l p.length 0).trans hbp
  obtain ⟨bq, hbq⟩ : ∃ b, (decide (p.length ≤ 4) && pathB p) = b := ⟨_, rfl⟩
  have Dq : Hid ((decide (p.length ≤ 4) && pathB p) = bq) := hbq
  have PO : Hid (∀ w', Ex w w' → Calls Tryz.prog 167 #[.slice pa p.length pc] w' fun e w'' => e = .returned (.bool bq) ∧ Ex w' w'') := fun w' h => by have := pathOk_any p pa pc w' (P.out w' h); rw [Dq.out] at this; exact this
  clear hR hbq
  go_enter Tryz.func160, Tryz.ntmps160
  go_wp2_with fail
  refine wp_region_held_drew (S := fun w' => Ex (w.alloc (.cells #[.int .i64 k, .int .i64 n, .string s, .slice pa p.length pc, .slice a l c] 90)) w' ∧ w'.cell? ⟨w.heap.size, 0, none⟩ = some (.int .i64 k) ∧ w'.cell? ⟨w.heap.size, 1, none⟩ = some (.int .i64 n) ∧ w'.cell? ⟨w.heap.size, 2, none⟩ = some (.string s) ∧ w'.cell? ⟨w.heap.size, 3, none⟩ = some (.slice pa p.length pc) ∧ w'.cell? ⟨w.heap.size, 4, none⟩ = some (.slice a l c)) (by kernel_rfl) (KS.out _ (Ex.refl _).drew) (fun hHeld => ?_)
  refine wpAnyH_take (i := 0) (v := ?_) rfl (by kernel_rfl) (by kernel_rfl) (by kernel_rfl) (fun _ _ _ h => h) (Or.inl ⟨by rfl, ?_⟩) (by assumption) ?_
  rotate_left
  · (intro w' hSw; (try dsimp only at hSw); go_simp) <;> with_reducible rfl
  change wpAnyH Tryz.prog _ _ _ _ _ _ (Act.put _ (some 6) _) _
  (try simp only [Act.put, List.setIfInBounds_toArray, List.set_cons_zero, List.set_cons_succ])
  refine wpAnyH_take (i := 1) (v := ?_) rfl (by kernel_rfl) (by kernel_rfl) (by kernel_rfl) (fun _ _ _ h => h) (Or.inl ⟨by rfl, ?_⟩) (by assumption) ?_
  rotate_left
  · (intro w' hSw; (try dsimp only at hSw); go_simp) <;> with_reducible rfl
  change wpAnyH Tryz.prog _ _ _ _ _ _ (Act.put _ (some 7) _) _
  (try simp only [Act.put, List.setIfInBounds_toArray, List.set_cons_zero, List.set_cons_succ])
  refine wpAnyH_take (i := 2) (v := ?_) rfl (by kernel_rfl) (by kernel_rfl) (by kernel_rfl) (fun _ _ _ h => h) (Or.inl ⟨by rfl, ?_⟩) (by assumption) ?_
  rotate_left
  · (intro w' hSw; (try dsimp only at hSw); go_simp) <;> with_reducible rfl
  change wpAnyH Tryz.prog _ _ _ _ _ _ (Act.put _ (some 8) _) _
  (try simp only [Act.put, List.setIfInBounds_toArray, List.set_cons_zero, List.set_cons_succ])
  refine wpAnyH_take (i := 3) (v := ?_) rfl (by kernel_rfl) (by kernel_rfl) (by kernel_rfl) (fun _ _ _ h => h) (Or.inl ⟨by rfl, ?_⟩) (by assumption) ?_
  rotate_left
  · (intro w' hSw; (try dsimp only at hSw); go_simp) <;> with_reducible rfl
  change wpAnyH Tryz.prog _ _ _ _ _ _ (Act.put _ (some 9) _) _
  (try simp only [Act.put, List.setIfInBounds_toArray, List.set_cons_zero, List.set_cons_succ])
  refine wpAnyH_take (i := 4) (v := ?_) rfl (by kernel_rfl) (by kernel_rfl) (by kernel_rfl) (fun _ _ _ h => h) (Or.inl ⟨by rfl, ?_⟩) (by assumption) ?_
  rotate_left
  · (intro w' hSw; (try dsimp only at hSw); go_simp) <;> with_reducible rfl
  change wpAnyH Tryz.prog _ _ _ _ _ _ (Act.put _ (some 10) _) _
  (try simp only [Act.put, List.setIfInBounds_toArray, List.set_cons_zero, List.set_cons_succ])
  refine wpAnyH_take (i := 5) (v := ?_) rfl (by kernel_rfl) (by kernel_rfl) (by kernel_rfl) (fun _ _ _ h => h) (Or.inl ⟨by rfl, ?_⟩) (by assumption) ?_
  rotate_left
  · (intro w' hSw; (try dsimp only at hSw); go_simp) <;> with_reducible rfl
  change wpAnyH Tryz.prog _ _ _ _ _ _ (Act.put _ (some 11) _) _
  (try simp only [Act.put, List.setIfInBounds_toArray, List.set_cons_zero, List.set_cons_succ])
  refine wpAnyH_take (i := 6) (v := ?_) rfl (by kernel_rfl) (by kernel_rfl) (by kernel_rfl) (fun _ _ _ h => h) (Or.inl ⟨by rfl, ?_⟩) (by assumption) ?_
  rotate_left
  · (intro w' hSw; (try dsimp only at hSw); go_simp) <;> with_reducible rfl
  change wpAnyH Tryz.prog _ _ _ _ _ _ (Act.put _ (some 12) _) _
  (try simp only [Act.put, List.setIfInBounds_toArray, List.set_cons_zero, List.set_cons_succ])
  refine wpAnyH_take (i := 7) (v := ?_) rfl (by kernel_rfl) (by kernel_rfl) (by kernel_rfl) (fun _ _ _ h => h) (Or.inl ⟨by rfl, ?_⟩) (by assumption) ?_
  rotate_left
  · (intro w' hSw; (try dsimp only at hSw); go_simp) <;> with_reducible rfl
  change wpAnyH Tryz.prog _ _ _ _ _ _ (Act.put _ (some 13) _) _
  (try simp only [Act.put, List.setIfInBounds_toArray, List.set_cons_zero, List.set_cons_succ])
  refine wpAnyH_take (i := 8) (v := ?_) rfl (by kernel_rfl) (by kernel_rfl) (by kernel_rfl) (fun _ _ _ h => h) (Or.inl ⟨by rfl, ?_⟩) (by assumption) ?_
  rotate_left
  · (intro w' hSw; (try dsimp only at hSw); go_simp) <;> with_reducible rfl
  change wpAnyH Tryz.prog _ _ _ _ _ _ (Act.put _ (some 14) _) _
  (try simp only [Act.put, List.setIfInBounds_toArray, List.set_cons_zero, List.set_cons_succ])
  refine wpAnyH_take (i := 9) (v := ?_) rfl (by kernel_rfl) (by kernel_rfl) (by kernel_rfl) (fun _ _ _ h => h) (Or.inl ⟨by rfl, ?_⟩) (by assumption) ?_
  rotate_left
  · (intro w' hSw; (try dsimp only at hSw); go_simp) <;> with_reducible rfl
  change wpAnyH Tryz.prog _ _ _ _ _ _ (Act.put _ (some 15) _) _
  (try simp only [Act.put, List.setIfInBounds_toArray, List.set_cons_zero, List.set_cons_succ])
  refine wpAnyH_take (i := 10) (v := ?_) rfl (by kernel_rfl) (by kernel_rfl) (by kernel_rfl) (fun _ _ _ h => h) (Or.inl ⟨by rfl, ?_⟩) (by assumption) ?_
  rotate_left
  · (intro w' hSw; (try dsimp only at hSw); go_simp) <;> with_reducible rfl
  change wpAnyH Tryz.prog _ _ _ _ _ _ (Act.put _ (some 3) _) _
  (try simp only [Act.put, List.setIfInBounds_toArray, List.set_cons_zero, List.set_cons_succ])
  refine wpAnyH_take (i := 11) (v := ?_) rfl (by kernel_rfl) (by kernel_rfl) (by kernel_rfl) (fun _ _ _ h => h) (Or.inl ⟨by rfl, ?_⟩) (by assumption) ?_
  rotate_left
  · (intro w' hSw; (try dsimp only at hSw); go_simp) <;> with_reducible rfl
  change wpAnyH Tryz.prog _ _ _ _ _ _ (Act.put _ (some 4) _) _
  (try simp only [Act.put, List.setIfInBounds_toArray, List.set_cons_zero, List.set_cons_succ])
  refine wpAnyH_take (i := 12) (v := ?_) rfl (by kernel_rfl) (by kernel_rfl) (by kernel_rfl) (fun _ _ _ h => h) (Or.inl ⟨by rfl, ?_⟩) (by assumption) ?_
  rotate_left
  · (intro w' hSw; (try dsimp only at hSw); go_simp) <;> with_reducible rfl
  change wpAnyH Tryz.prog _ _ _ _ _ _ (Act.put _ (some 5) _) _
  (try simp only [Act.put, List.setIfInBounds_toArray, List.set_cons_zero, List.set_cons_succ])
  refine wpAnyH_done (by kernel_rfl) ?_ _

  obtain ⟨hx1, c0, c1, c2, c3, c4⟩ := hHeld
  have X1 : Hid (Ex (w.alloc (.cells #[.int .i64 k, .int .i64 n, .string s, .slice pa p.length pc, .slice a l c] 90)) _) := hx1
  clear hx1 hbn hbs hbp
  by_cases k1 : k = 1
  · subst k1
    cases bs with
    | false =>
      have HV : Hid (R = false) := RR.out.trans (by rw [tokB_1, Ds.out]; rfl)
      go_wp2_with fail
      go_ret
      exact ⟨ret_b HV.out.symm, N.out.trans X1.out⟩
    | true =>
      cases bp with
      | false =>
        have HV : Hid (R = false) := RR.out.trans (by rw [tokB_1, Ds.out, Dp.out]; rfl)
        go_wp2_with fail
        go_ret
        exact ⟨ret_b HV.out.symm, N.out.trans X1.out⟩
      | true =>
        by_cases hl : l = 0
        · have l1 : ((l : Int) == 0) = true := by rw [beq_iff_eq]; omega
          have HL : Hid (l = 0) := hl
          clear hl
          by_cases hn0 : 0 ≤ n
          · have hn01 : decide (0 ≤ n) = true := decide_eq_true hn0
            by_cases hn9 : n ≤ 9999
            · have hn91 : decide (n ≤ 9999) = true := decide_eq_true hn9
              have HV : Hid (R = true) := RR.out.trans (by rw [tokB_1, Ds.out, Dp.out, decide_eq_true HL.out, decide_eq_true hn0, decide_eq_true hn9]; rfl)
              go_wp2_with fail
              go_ret
              exact ⟨ret_b HV.out.symm, N.out.trans X1.out⟩
            · have hn91 : decide (n ≤ 9999) = false := decide_eq_false hn9
              have HV : Hid (R = false) := RR.out.trans (by rw [tokB_1, Ds.out, Dp.out, decide_eq_true HL.out, decide_eq_true hn0, decide_eq_false hn9]; rfl)
              go_wp2_with fail
              go_ret
              exact ⟨ret_b HV.out.symm, N.out.trans X1.out⟩
          · have hn01 : decide (0 ≤ n) = false := decide_eq_false hn0
            have HV : Hid (R = false) := RR.out.trans (by rw [tokB_1, Ds.out, Dp.out, decide_eq_true HL.out, decide_eq_false hn0]; rfl)
            go_wp2_with fail
            go_ret
            exact ⟨ret_b HV.out.symm, N.out.trans X1.out⟩
        · have l1 : ((l : Int) == 0) = false := by rw [beq_eq_false_iff_ne]; omega
          have HV : Hid (R = false) := RR.out.trans (by rw [tokB_1, Ds.out, Dp.out, decide_eq_false hl]; rfl)
          go_wp2_with fail
          go_ret
          exact ⟨ret_b HV.out.symm, N.out.trans X1.out⟩
  by_cases k2 : k = 2
  · subst k2
    cases bn with
    | false =>
      have HV : Hid (R = false) := RR.out.trans (by rw [tokB_2, Dn.out]; rfl)
      go_wp2_with fail
      go_ret
      exact ⟨ret_b HV.out.symm, N.out.trans X1.out⟩
    | true =>
      cases bp with
      | false =>
        have HV : Hid (R = false) := RR.out.trans (by rw [tokB_2, Dn.out, Dp.out]; rfl)
        go_wp2_with fail
        go_ret
        exact ⟨ret_b HV.out.symm, N.out.trans X1.out⟩
      | true =>
        by_cases hl : l = 0
        · have l1 : ((l : Int) == 0) = true := by rw [beq_iff_eq]; omega
          have HL : Hid (l = 0) := hl
          clear hl
          have HV : Hid (R = true) := RR.out.trans (by rw [tokB_2, Dn.out, Dp.out, decide_eq_true HL.out]; rfl)
          go_wp2_with fail
          go_ret
          exact ⟨ret_b HV.out.symm, N.out.trans X1.out⟩
        · have l1 : ((l : Int) == 0) = false := by rw [beq_eq_false_iff_ne]; omega
          have HV : Hid (R = false) := RR.out.trans (by rw [tokB_2, Dn.out, Dp.out, decide_eq_false hl]; rfl)
          go_wp2_with fail
          go_ret
          exact ⟨ret_b HV.out.symm, N.out.trans X1.out⟩
  by_cases k3 : k = 3
  · subst k3
    cases bn with
    | false =>
      have HV : Hid (R = false) := RR.out.trans (by rw [tokB_3 (by omega), Dn.out]; rfl)
      go_wp2_with fail
      go_ret
      exact ⟨ret_b HV.out.symm, N.out.trans X1.out⟩
    | true =>
      cases bs with
      | false =>
        have HV : Hid (R = false) := RR.out.trans (by rw [tokB_3 (by omega), Dn.out, Ds.out]; rfl)
        go_wp2_with fail
        go_ret
        exact ⟨ret_b HV.out.symm, N.out.trans X1.out⟩
      | true =>
        cases bp with
        | false =>
          have HV : Hid (R = false) := RR.out.trans (by rw [tokB_3 (by omega), Dn.out, Ds.out, Dp.out]; rfl)
          go_wp2_with fail
          go_ret
          exact ⟨ret_b HV.out.symm, N.out.trans X1.out⟩
        | true =>
          by_cases hl : l = 2
          · have l1 : ((l : Int) == 2) = true := by rw [beq_iff_eq]; omega
            have HL : Hid (l = 2) := hl
            clear hl
            have HV : Hid (R = true) := RR.out.trans (by rw [tokB_3 (by omega), Dn.out, Ds.out, Dp.out, decide_eq_true HL.out]; rfl)
            go_wp2_with fail
            go_ret
            exact ⟨ret_b HV.out.symm, N.out.trans X1.out⟩
          · have l1 : ((l : Int) == 2) = false := by rw [beq_eq_false_iff_ne]; omega
            have HV : Hid (R = false) := RR.out.trans (by rw [tokB_3 (by omega), Dn.out, Ds.out, Dp.out, decide_eq_false hl]; rfl)
            go_wp2_with fail
            go_ret
            exact ⟨ret_b HV.out.symm, N.out.trans X1.out⟩
  by_cases k4 : k = 4
  · subst k4
    cases bn with
    | false =>
      have HV : Hid (R = false) := RR.out.trans (by rw [tokB_3 (by omega), Dn.out]; rfl)
      go_wp2_with fail
      go_ret
      exact ⟨ret_b HV.out.symm, N.out.trans X1.out⟩
    | true =>
      cases bs with
      | false =>
        have HV : Hid (R = false) := RR.out.trans (by rw [tokB_3 (by omega), Dn.out, Ds.out]; rfl)
        go_wp2_with fail
        go_ret
        exact ⟨ret_b HV.out.symm, N.out.trans X1.out⟩
      | true =>
        cases bp with
        | false =>
          have HV : Hid (R = false) := RR.out.trans (by rw [tokB_3 (by omega), Dn.out, Ds.out, Dp.out]; rfl)
          go_wp2_with fail
          go_ret
          exact ⟨ret_b HV.out.symm, N.out.trans X1.out⟩
        | true =>
          by_cases hl : l = 2
          · have l1 : ((l : Int) == 2) = true := by rw [beq_iff_eq]; omega
            have HL : Hid (l = 2) := hl
            clear hl
            have HV : Hid (R = true) := RR.out.trans (by rw [tokB_3 (by omega), Dn.out, Ds.out, Dp.out, decide_eq_true HL.out]; rfl)
            go_wp2_with fail
            go_ret
            exact ⟨ret_b HV.out.symm, N.out.trans X1.out⟩
          · have l1 : ((l : Int) == 2) = false := by rw [beq_eq_false_iff_ne]; omega
            have HV : Hid (R = false) := RR.out.trans (by rw [tokB_3 (by omega), Dn.out, Ds.out, Dp.out, decide_eq_false hl]; rfl)
            go_wp2_with fail
            go_ret
            exact ⟨ret_b HV.out.symm, N.out.trans X1.out⟩
  by_cases k5 : k = 5
  · subst k5
    cases bn with
    | false =>
      have HV : Hid (R = false) := RR.out.trans (by rw [tokB_3 (by omega), Dn.out]; rfl)
      go_wp2_with fail
      go_ret
      exact ⟨ret_b HV.out.symm, N.out.trans X1.out⟩
    | true =>
      cases bs with
      | false =>
        have HV : Hid (R = false) := RR.out.trans (by rw [tokB_3 (by omega), Dn.out, Ds.out]; rfl)
        go_wp2_with fail
        go_ret
        exact ⟨ret_b HV.out.symm, N.out.trans X1.out⟩
      | true =>
        cases bp with
        | false =>
          have HV : Hid (R = false) := RR.out.trans (by rw [tokB_3 (by omega), Dn.out, Ds.out, Dp.out]; rfl)
          go_wp2_with fail
          go_ret
          exact ⟨ret_b HV.out.symm, N.out.trans X1.out⟩
        | true =>
          by_cases hl : l = 2
          · have l1 : ((l : Int) == 2) = true := by rw [beq_iff_eq]; omega
            have HL : Hid (l = 2) := hl
            clear hl
            have HV : Hid (R = true) := RR.out.trans (by rw [tokB_3 (by omega), Dn.out, Ds.out, Dp.out, decide_eq_true HL.out]; rfl)
            go_wp2_with fail
            go_ret
            exact ⟨ret_b HV.out.symm, N.out.trans X1.out⟩
          · have l1 : ((l : Int) == 2) = false := by rw [beq_eq_false_iff_ne]; omega
            have HV : Hid (R = false) := RR.out.trans (by rw [tokB_3 (by omega), Dn.out, Ds.out, Dp.out, decide_eq_false hl]; rfl)
            go_wp2_with fail
            go_ret
            exact ⟨ret_b HV.out.symm, N.out.trans X1.out⟩
  by_cases k6 : k = 6
  · subst k6
    cases bn with
    | false =>
      have HV : Hid (R = false) := RR.out.trans (by rw [tokB_3 (by omega), Dn.out]; rfl)
      go_wp2_with fail
      go_ret
      exact ⟨ret_b HV.out.symm, N.out.trans X1.out⟩
    | true =>
      cases bs with
      | false =>
        have HV : Hid (R = false) := RR.out.trans (by rw [tokB_3 (by omega), Dn.out, Ds.out]; rfl)
        go_wp2_with fail
        go_ret
        exact ⟨ret_b HV.out.symm, N.out.trans X1.out⟩
      | true =>
        cases bp with
        | false =>
          have HV : Hid (R = false) := RR.out.trans (by rw [tokB_3 (by omega), Dn.out, Ds.out, Dp.out]; rfl)
          go_wp2_with fail
          go_ret
          exact ⟨ret_b HV.out.symm, N.out.trans X1.out⟩
        | true =>
          by_cases hl : l = 2
          · have l1 : ((l : Int) == 2) = true := by rw [beq_iff_eq]; omega
            have HL : Hid (l = 2) := hl
            clear hl
            have HV : Hid (R = true) := RR.out.trans (by rw [tokB_3 (by omega), Dn.out, Ds.out, Dp.out, decide_eq_true HL.out]; rfl)
            go_wp2_with fail
            go_ret
            exact ⟨ret_b HV.out.symm, N.out.trans X1.out⟩
          · have l1 : ((l : Int) == 2) = false := by rw [beq_eq_false_iff_ne]; omega
            have HV : Hid (R = false) := RR.out.trans (by rw [tokB_3 (by omega), Dn.out, Ds.out, Dp.out, decide_eq_false hl]; rfl)
            go_wp2_with fail
            go_ret
            exact ⟨ret_b HV.out.symm, N.out.trans X1.out⟩
  by_cases k7 : k = 7
  · subst k7
    cases bn with
    | false =>
      have HV : Hid (R = false) := RR.out.trans (by rw [tokB_7, Dn.out]; rfl)
      go_wp2_with fail
      go_ret
      exact ⟨ret_b HV.out.symm, N.out.trans X1.out⟩
    | true =>
      cases bs with
      | false =>
        have HV : Hid (R = false) := RR.out.trans (by rw [tokB_7, Dn.out, Ds.out]; rfl)
        go_wp2_with fail
        go_ret
        exact ⟨ret_b HV.out.symm, N.out.trans X1.out⟩
      | true =>
        go_wp2_with fail
        refine (PO.out _ (N.out.trans X1.out)).mono ?_
        rintro e w2 ⟨rfl, hb2⟩
        clear c0 c1 c2 c3 c4
        obtain ⟨c0, c1, c2, c3, c4⟩ := C.out w2 (X1.out.trans hb2)
        cases bq with
        | false =>
          have HV : Hid (R = false) := RR.out.trans (by rw [tokB_7, Dn.out, Ds.out, Dq.out]; rfl)
          go_wp2_with fail
          go_ret
          exact ⟨ret_b HV.out.symm, N.out.trans (X1.out.trans hb2)⟩
        | true =>
          by_cases hl : l = 1
          · have l1 : ((l : Int) == 1) = true := by rw [beq_iff_eq]; omega
            have HL : Hid (l = 1) := hl
            clear hl
            have HV : Hid (R = true) := RR.out.trans (by rw [tokB_7, Dn.out, Ds.out, Dq.out, decide_eq_true HL.out]; rfl)
            go_wp2_with fail
            go_ret
            exact ⟨ret_b HV.out.symm, N.out.trans (X1.out.trans hb2)⟩
          · have l1 : ((l : Int) == 1) = false := by rw [beq_eq_false_iff_ne]; omega
            have HV : Hid (R = false) := RR.out.trans (by rw [tokB_7, Dn.out, Ds.out, Dq.out, decide_eq_false hl]; rfl)
            go_wp2_with fail
            go_ret
            exact ⟨ret_b HV.out.symm, N.out.trans (X1.out.trans hb2)⟩
  by_cases k8 : k = 8
  · subst k8
    cases bn with
    | false =>
      have HV : Hid (R = false) := RR.out.trans (by rw [tokB_8, Dn.out]; rfl)
      go_wp2_with fail
      go_ret
      exact ⟨ret_b HV.out.symm, N.out.trans X1.out⟩
    | true =>
      cases bs with
      | false =>
        have HV : Hid (R = false) := RR.out.trans (by rw [tokB_8, Dn.out, Ds.out]; rfl)
        go_wp2_with fail
        go_ret
        exact ⟨ret_b HV.out.symm, N.out.trans X1.out⟩
      | true =>
        go_wp2_with fail
        refine (PO.out _ (N.out.trans X1.out)).mono ?_
        rintro e w2 ⟨rfl, hb2⟩
        clear c0 c1 c2 c3 c4
        obtain ⟨c0, c1, c2, c3, c4⟩ := C.out w2 (X1.out.trans hb2)
        cases bq with
        | false =>
          have HV : Hid (R = false) := RR.out.trans (by rw [tokB_8, Dn.out, Ds.out, Dq.out]; rfl)
          go_wp2_with fail
          go_ret
          exact ⟨ret_b HV.out.symm, N.out.trans (X1.out.trans hb2)⟩
        | true =>
          by_cases hl : l = 2
          · have l1 : ((l : Int) == 2) = true := by rw [beq_iff_eq]; omega
            have HL : Hid (l = 2) := hl
            clear hl
            have HV : Hid (R = true) := RR.out.trans (by rw [tokB_8, Dn.out, Ds.out, Dq.out, decide_eq_true HL.out]; rfl)
            go_wp2_with fail
            go_ret
            exact ⟨ret_b HV.out.symm, N.out.trans (X1.out.trans hb2)⟩
          · have l1 : ((l : Int) == 2) = false := by rw [beq_eq_false_iff_ne]; omega
            have HV : Hid (R = false) := RR.out.trans (by rw [tokB_8, Dn.out, Ds.out, Dq.out, decide_eq_false hl]; rfl)
            go_wp2_with fail
            go_ret
            exact ⟨ret_b HV.out.symm, N.out.trans (X1.out.trans hb2)⟩
  have q1 : (k == 1) = false := by rw [beq_eq_false_iff_ne]; exact k1
  have q2 : (k == 2) = false := by rw [beq_eq_false_iff_ne]; exact k2
  have q3 : (k == 3) = false := by rw [beq_eq_false_iff_ne]; exact k3
  have q4 : (k == 4) = false := by rw [beq_eq_false_iff_ne]; exact k4
  have q5 : (k == 5) = false := by rw [beq_eq_false_iff_ne]; exact k5
  have q6 : (k == 6) = false := by rw [beq_eq_false_iff_ne]; exact k6
  have q7 : (k == 7) = false := by rw [beq_eq_false_iff_ne]; exact k7
  have q8 : (k == 8) = false := by rw [beq_eq_false_iff_ne]; exact k8
  have HV : Hid (R = false) := RR.out.trans (tokB_o (by omega))
  go_wp2_with fail
  go_ret
  exact ⟨ret_b HV.out.symm, N.out.trans X1.out⟩

end Go.Proofs.YtgpdnoghlommeaaGreatDoor

namespace Go.Proofs.YtgpdnoghlommeaaGreatDoor

open Go.RowKit Go.Deep Go.Maps Go.WideMaps

attribute [local go_sem ↓] Go.wp_at_zero Go.wp_at_succ

/-- How often a name is among names. -/
def cntN (ns : List ByteArray) (s : ByteArray) : Nat := (ns.filter fun t => t.toList == s.toList).length
theorem cntN_snoc (ns : List ByteArray) (t s : ByteArray) : cntN (ns ++ [t]) s = cntN ns s + (if (t.toList == s.toList) = true then 1 else 0) := by
  simp only [cntN, List.filter_append, List.length_append, List.filter_cons, List.filter_nil]
  by_cases h : (t.toList == s.toList) = true
  · simp [h]
  · simp [h]
theorem cntN_le (ns : List ByteArray) (s : ByteArray) : cntN ns s ≤ ns.length := List.length_filter_le _ _
theorem cntN_has (ns : List ByteArray) (s : ByteArray) : hasB ns s = decide (cntN ns s ≠ 0) := by
  cases h : hasB ns s with
  | true =>
    simp only [hasB, List.any_eq_true] at h
    obtain ⟨t, ht, he⟩ := h
    symm
    rw [decide_eq_true_eq]
    intro h0
    have := List.length_eq_zero_iff.mp h0
    have hm : t ∈ ns.filter (fun t => t.toList == s.toList) := List.mem_filter.2 ⟨ht, he⟩
    rw [this] at hm; cases hm
  | false =>
    simp only [hasB, List.any_eq_false] at h
    symm
    rw [decide_eq_false_iff_not]
    intro h0
    apply h0
    simp only [cntN]
    rw [List.length_eq_zero_iff, List.filter_eq_nil_iff]
    intro t ht
    simpa using h t ht
theorem cntN_same {ns : List ByteArray} {s t : ByteArray} (h : (s.toList == t.toList) = true) : cntN ns s = cntN ns t := by
  have : s.toList = t.toList := by simpa using h
  simp only [cntN, this]

theorem Tryz.keyed : Keyed Tryz.prog 9 := string_keyed Tryz.underlying9
theorem Tryz.zeroInt (w : World) : (zeroValue 3).run Tryz.prog w = .ok (.int .i64 0) w := by kernel_rfl

/-- A block is a map that holds of each name how often it is among names. -/
def CM (w : World) (mb n : Nat) (ns : List ByteArray) : Prop := ∃ D : DataW Unit, w.ownsMap Tryz.prog 9 (plainElem Tryz.prog 3) mb n D ∧ ∀ s : ByteArray, D.atKey (.string s.data.toList) (.lit (.int .i64 0)) = .lit (.int .i64 (cntN ns s : Int))
theorem CM_made (w : World) : CM (w.alloc (.map #[] 0)) w.heap.size 0 [] := ⟨_, World.ownsMap_made w _ _ _, fun _ => rfl⟩
theorem CM.blk {w w' : World} {mb n : Nat} {ns : List ByteArray} (h : CM w mb n ns) (hb : w'.heap[mb]? = w.heap[mb]?) : CM w' mb n ns := by
  obtain ⟨D, ⟨es, cl, h1, h2⟩, h3⟩ := h
  exact ⟨D, ⟨es, cl, hb.trans h1, h2⟩, h3⟩
theorem CM.lt {w : World} {mb n : Nat} {ns : List ByteArray} (h : CM w mb n ns) : mb < w.heap.size := by
  obtain ⟨D, h1, _⟩ := h
  exact h1.lt
theorem CM.ex {w w' : World} {mb n : Nat} {ns : List ByteArray} (h : CM w mb n ns) (hx : Ex w w') : CM w' mb n ns := h.blk (hx.block mb h.lt)
theorem CM.drew {w : World} {mb n : Nat} {ns : List ByteArray} (h : CM w mb n ns) : CM w.drew mb n ns := h.blk rfl
theorem CM.ne {w : World} {mb n : Nat} {ns : List ByteArray} (h : CM w mb n ns) {p : Addr} {v : Value} (hc : w.cell? p = some v) : p.block ≠ mb := by
  obtain ⟨D, ⟨es, cl, h1, h2⟩, h3⟩ := h
  intro e
  simp [World.cell?, e, h1] at hc
theorem key_string {s : ByteArray} (hs : s.size ≤ 9223372036854775807) : keyOf Tryz.prog 9 (.string s) = some (.string s.data.toList) := keyOf_string_mk Tryz.underlying9 (by unfold maxLen; omega)
/-- A name asked for. -/
theorem CM.look {w : World} {mb n : Nat} {ns : List ByteArray} (h : CM w mb n ns) {s : ByteArray} (hs : s.size ≤ 9223372036854775807) : (Instr.lookup 169 (.map (some mb)) (.string s) false).run Tryz.prog w = .ok (.int .i64 (cntN ns s : Int)) w := by
  obtain ⟨D, h1, h2⟩ := h
  obtain ⟨c, hr, hc, _⟩ := h1.lookup_int Tryz.keyed Tryz.underlying169 Tryz.underlying3 (Tryz.zeroInt _) (key_string hs)
  have e : DataW.lit (H := Unit) (.int .i64 c) = .lit (.int .i64 (cntN ns s : Int)) := hc.symm.trans (h2 s)
  simp only [DataW.lit.injEq, Lit.int.injEq, true_and] at e
  rw [e] at hr; exact hr
theorem grown_fr {w w' : World} {b : Nat} (h : w.grownBy w' (some b)) : Fr b w w' := ⟨h.os, h.tape, h.output, h.size, fun k hk hn => h.block k hk (fun e => hn (Option.some.inj e))⟩
theorem byte_key {s t : ByteArray} : s.data.toList = t.data.toList ↔ (s.toList == t.toList) = true := by
  rw [beq_iff_eq, Go.ByteArray.toList_eq, Go.ByteArray.toList_eq]
theorem CM.put {w' : World} {mb n : Nat} {ns : List ByteArray} {s : ByteArray} {D : DataW Unit} (hD : IsMap D) (h2 : ∀ s : ByteArray, D.atKey (.string s.data.toList) (.lit (.int .i64 0)) = .lit (.int .i64 (cntN ns s : Int))) (h : w'.ownsMap Tryz.prog 9 (plainElem Tryz.prog 3) mb n (D.put (.string s.data.toList) (.lit (.int .i64 ((cntN ns s : Int) + 1))))) : CM w' mb n (ns ++ [s]) := by
  refine ⟨_, h, fun t => ?_⟩
  by_cases he : (s.toList == t.toList) = true
  · have e := byte_key.2 he
    rw [← e, atKey_put_same hD (k := .string s.data.toList) (by simp [WideAt.IsKeyLit]), cntN_snoc, if_pos he, ← cntN_same he]
    simp
  · rw [atKey_put_other (fun e => by injection e with e; exact he (byte_key.1 e.symm)), h2 t, cntN_snoc, if_neg he]
    simp

/-- A name counted once more: an operation of an ordered list. -/
theorem wpList_count {w : World} {ops : Array Oper} {rest : List Oper} {o : Oper} {a : Act} {Q : Exit → Act → World → Prop} (hg : o.guard = none) (m x v : Operand) (hop : o.op = Op.mapUpdate 169 m x v)
    (mb n : Nat) (ns : List ByteArray) (s : ByteArray) (hs : s.size ≤ 9223372036854775807) (hm : a.eval m = .map (some mb)) (hC : CM w mb n ns) (hn : n < 1000000) (hns : ns.length < 1000000) (hx : a.eval x = .string s) (hv : a.eval v = .int .i64 ((cntN ns s : Int) + 1))
    (hK : ∀ w', CM w' mb (n + 1) (ns ++ [s]) → Fr mb w w' → wpList Tryz.prog ops Q rest (a.put o.dst undef) w') : wpList Tryz.prog ops Q (o :: rest) a w := by
  obtain ⟨D, h1, h2⟩ := hC
  have hc := cntN_le ns s
  refine wpList_mapUpdate_own w hg m x v 169 hop 9 3 Tryz.keyed Tryz.underlying169 _ mb n D hm h1 (by unfold maxLen; omega) _ _ _ hx hv (key_string hs) _ [] (plainElem_int Tryz.underlying3 (WalkArith.wf_i64 (by omega))) ?_
  intro w' hown hgr
  exact hK w' (CM.put h1.isMap h2 hown) (grown_fr hgr)

end Go.Proofs.YtgpdnoghlommeaaGreatDoor
