/- How many bindings there are, without the program. Walks: the program's names, paths and terms that are ok. Walks: the program's terms that have just what their kinds say. Walks: names counted in a map. Walks: names bound, and names that may be bound together. -/
import Derived.Test.YtgpdnoghlommeaaDoorSZ2
import Derived.Test.YtgpdnoghlommeaaDoorBD6
import Derived.Test.YtgpdnoghlommeaaDoorGBD3
import Derived.Deep.RegionHeld3
import Derived.Test.YtgpdnoghlommeaaDoorGW7
import Derived.Maps.Own
import Derived.Maps.OwnOps
import Derived.Maps.OwnSet
import Derived.Test.YtgpdnoghlommeaaDoorGSZ1
namespace Go.Proofs.YtgpdnoghlommeaaDoor

open Go.RowKit Go.Deep

/-- How many bindings there are, those in others counted. -/
def bN : BD → Nat
  | .nil => 0
  | .node _ _ _ _ .nil => 0
  | .node _ _ (_, _, _, _, _, _) tb (.node _ _ _ eb r) => 1 + (bN tb + bN eb) + bN r
def bNk (f : BD) (j : Nat) : Nat := bN (bthen f j) + bN (belse f j)
theorem bN_sum : ∀ f : BD, bN f = blen f + sumN (bNk f) (blen f)
  | .nil => rfl
  | .node _ _ _ _ .nil => rfl
  | .node a b (k, ns, fn, ts, tz, ez) tb (.node c d q eb r) => by
    have h : sumN (fun i => bNk (.node a b (k, ns, fn, ts, tz, ez) tb (.node c d q eb r)) (i + 1)) (blen r) = sumN (bNk r) (blen r) := sumN_eq _ fun i _ => rfl
    rw [blen, sumN_shift, h, bN, bN_sum r]
    show _ = _ + ((bN tb + bN eb) + _)
    omega
theorem bN_le : ∀ f : BD, bN f ≤ bW f
  | .nil => Nat.le_refl _
  | .node _ _ _ _ .nil => Nat.le_refl _
  | .node _ _ (_, ns, fn, ts, tz, ez) tb (.node _ _ _ eb r) => by
    have h1 := bN_le tb
    have h2 := bN_le eb
    have h3 := bN_le r
    simp only [bN, bW]; omega
theorem sumN_le {g g' : Nat → Nat} : ∀ n, (∀ i, i < n → g i ≤ g' i) → sumN g n ≤ sumN g' n
  | 0, _ => Nat.le_refl _
  | n + 1, h => by
    have h1 := sumN_le n fun i hi => h i (by omega)
    have h2 := h n (by omega)
    rw [sumN, sumN]; omega
theorem sumN_up (g : Nat → Nat) (k : Nat) : ∀ n, k ≤ n → sumN g k ≤ sumN g n
  | 0, h => by obtain rfl : k = 0 := by omega
               exact Nat.le_refl _
  | n + 1, h => by
    by_cases e : k = n + 1
    · rw [e]; exact Nat.le_refl _
    · have := sumN_up g k n (by omega)
      rw [sumN]; omega
def qNk (l : List PM) (j : Nat) : Nat := bN (l.getD j pm0).binds
def qN (l : List PM) : Nat := sumN (qNk l) l.length
theorem qN_le (l : List PM) : qN l ≤ qW l := by
  have h := sumN_le (g := qNk l) (g' := qWk l) l.length fun i _ => by
    have := bN_le (l.getD i pm0).binds
    simp only [qNk, qWk, pW]; omega
  rw [qW_sum]; unfold qN; omega
/-- What TidySize tells. -/
def sizeR (l : List PM) : Int := if pureB l = true then (qN l : Int) else -1

end Go.Proofs.YtgpdnoghlommeaaDoor

namespace Go.Proofs.YtgpdnoghlommeaaDoor

open Go.RowKit Go.Deep

attribute [local go_sem ↓] Go.wp_at_zero Go.wp_at_succ

set_option maxHeartbeats 2000000 in
theorem nameByte_any (n : Nat) (w : World) : Calls Tryd.prog 54 #[.int .u8 (n : Int)] w fun e w' => e = .returned (.bool (wletter n)) ∧ Ex w w' := by
  rcases byte_class n with h | h | h | h | h | h | h | h | h
  · have L : Hid (wletter n = false) := by show wletter n = _; simp [wletter]; omega
    have w0 : decide ((97 : Int) ≤ (n : Int)) = false := by simp; omega
    have w1 : decide ((n : Int) ≤ 122) = true := by simp; omega
    have w2 : decide ((65 : Int) ≤ (n : Int)) = false := by simp; omega
    have w3 : decide ((n : Int) ≤ 90) = true := by simp; omega
    have w4 : decide ((48 : Int) ≤ (n : Int)) = false := by simp; omega
    have w5 : decide ((n : Int) ≤ 57) = true := by simp; omega
    have w6 : ((n : Int) == 95) = false := by simp; omega
    clear h
    go_enter Tryd.func54, Tryd.ntmps54
    go_wp2_with fail
    go_ret
    exact ⟨ret_b L.out.symm, Ex.refl _⟩
  · have L : Hid (wletter n = true) := by show wletter n = _; simp [wletter]; omega
    have w0 : decide ((97 : Int) ≤ (n : Int)) = false := by simp; omega
    have w1 : decide ((n : Int) ≤ 122) = true := by simp; omega
    have w2 : decide ((65 : Int) ≤ (n : Int)) = false := by simp; omega
    have w3 : decide ((n : Int) ≤ 90) = true := by simp; omega
    have w4 : decide ((48 : Int) ≤ (n : Int)) = true := by simp; omega
    have w5 : decide ((n : Int) ≤ 57) = true := by simp; omega
    have w6 : ((n : Int) == 95) = false := by simp; omega
    clear h
    go_enter Tryd.func54, Tryd.ntmps54
    go_wp2_with fail
    go_ret
    exact ⟨ret_b L.out.symm, Ex.refl _⟩
  · have L : Hid (wletter n = false) := by show wletter n = _; simp [wletter]; omega
    have w0 : decide ((97 : Int) ≤ (n : Int)) = false := by simp; omega
    have w1 : decide ((n : Int) ≤ 122) = true := by simp; omega
    have w2 : decide ((65 : Int) ≤ (n : Int)) = false := by simp; omega
    have w3 : decide ((n : Int) ≤ 90) = true := by simp; omega
    have w4 : decide ((48 : Int) ≤ (n : Int)) = true := by simp; omega
    have w5 : decide ((n : Int) ≤ 57) = false := by simp; omega
    have w6 : ((n : Int) == 95) = false := by simp; omega
    clear h
    go_enter Tryd.func54, Tryd.ntmps54
    go_wp2_with fail
    go_ret
    exact ⟨ret_b L.out.symm, Ex.refl _⟩
  · have L : Hid (wletter n = true) := by show wletter n = _; simp [wletter]; omega
    have w0 : decide ((97 : Int) ≤ (n : Int)) = false := by simp; omega
    have w1 : decide ((n : Int) ≤ 122) = true := by simp; omega
    have w2 : decide ((65 : Int) ≤ (n : Int)) = true := by simp; omega
    have w3 : decide ((n : Int) ≤ 90) = true := by simp; omega
    have w4 : decide ((48 : Int) ≤ (n : Int)) = true := by simp; omega
    have w5 : decide ((n : Int) ≤ 57) = false := by simp; omega
    have w6 : ((n : Int) == 95) = false := by simp; omega
    clear h
    go_enter Tryd.func54, Tryd.ntmps54
    go_wp2_with fail
    go_ret
    exact ⟨ret_b L.out.symm, Ex.refl _⟩
  · have L : Hid (wletter n = false) := by show wletter n = _; simp [wletter]; omega
    have w0 : decide ((97 : Int) ≤ (n : Int)) = false := by simp; omega
    have w1 : decide ((n : Int) ≤ 122) = true := by simp; omega
    have w2 : decide ((65 : Int) ≤ (n : Int)) = true := by simp; omega
    have w3 : decide ((n : Int) ≤ 90) = false := by simp; omega
    have w4 : decide ((48 : Int) ≤ (n : Int)) = true := by simp; omega
    have w5 : decide ((n : Int) ≤ 57) = false := by simp; omega
    have w6 : ((n : Int) == 95) = false := by simp; omega
    clear h
    go_enter Tryd.func54, Tryd.ntmps54
    go_wp2_with fail
    go_ret
    exact ⟨ret_b L.out.symm, Ex.refl _⟩
  · have L : Hid (wletter n = true) := by show wletter n = _; simp [wletter]; omega
    have w0 : decide ((97 : Int) ≤ (n : Int)) = false := by simp; omega
    have w1 : decide ((n : Int) ≤ 122) = true := by simp; omega
    have w2 : decide ((65 : Int) ≤ (n : Int)) = true := by simp; omega
    have w3 : decide ((n : Int) ≤ 90) = false := by simp; omega
    have w4 : decide ((48 : Int) ≤ (n : Int)) = true := by simp; omega
    have w5 : decide ((n : Int) ≤ 57) = false := by simp; omega
    have w6 : ((n : Int) == 95) = true := by simp; omega
    clear h
    go_enter Tryd.func54, Tryd.ntmps54
    go_wp2_with fail
    go_ret
    exact ⟨ret_b L.out.symm, Ex.refl _⟩
  · have L : Hid (wletter n = false) := by show wletter n = _; simp [wletter]; omega
    have w0 : decide ((97 : Int) ≤ (n : Int)) = false := by simp; omega
    have w1 : decide ((n : Int) ≤ 122) = true := by simp; omega
    have w2 : decide ((65 : Int) ≤ (n : Int)) = true := by simp; omega
    have w3 : decide ((n : Int) ≤ 90) = false := by simp; omega
    have w4 : decide ((48 : Int) ≤ (n : Int)) = true := by simp; omega
    have w5 : decide ((n : Int) ≤ 57) = false := by simp; omega
    have w6 : ((n : Int) == 95) = false := by simp; omega
    clear h
    go_enter Tryd.func54, Tryd.ntmps54
    go_wp2_with fail
    go_ret
    exact ⟨ret_b L.out.symm, Ex.refl _⟩
  · have L : Hid (wletter n = true) := by show wletter n = _; simp [wletter]; omega
    have w0 : decide ((97 : Int) ≤ (n : Int)) = true := by simp; omega
    have w1 : decide ((n : Int) ≤ 122) = true := by simp; omega
    have w2 : decide ((65 : Int) ≤ (n : Int)) = true := by simp; omega
    have w3 : decide ((n : Int) ≤ 90) = false := by simp; omega
    have w4 : decide ((48 : Int) ≤ (n : Int)) = true := by simp; omega
    have w5 : decide ((n : Int) ≤ 57) = false := by simp; omega
    have w6 : ((n : Int) == 95) = false := by simp; omega
    clear h
    go_enter Tryd.func54, Tryd.ntmps54
    go_wp2_with fail
    go_ret
    exact ⟨ret_b L.out.symm, Ex.refl _⟩
  · have L : Hid (wletter n = false) := by show wletter n = _; simp [wletter]; omega
    have w0 : decide ((97 : Int) ≤ (n : Int)) = true := by simp; omega
    have w1 : decide ((n : Int) ≤ 122) = false := by simp; omega
    have w2 : decide ((65 : Int) ≤ (n : Int)) = true := by simp; omega
    have w3 : decide ((n : Int) ≤ 90) = false := by simp; omega
    have w4 : decide ((48 : Int) ≤ (n : Int)) = true := by simp; omega
    have w5 : decide ((n : Int) ≤ 57) = false := by simp; omega
    have w6 : ((n : Int) == 95) = false := by simp; omega
    clear h
    go_enter Tryd.func54, Tryd.ntmps54
    go_wp2_with fail
    go_ret
    exact ⟨ret_b L.out.symm, Ex.refl _⟩

set_option maxHeartbeats 2000000 in
theorem nameOk_any (s : ByteArray) (w : World) : Calls Tryd.prog 45 #[.string s] w fun e w' => e = .returned (.bool (wordB s)) ∧ Ex w w' := by
  by_cases h1 : s.size < 1
  · have HR : Hid (wordB s = false) := wordB_size (Or.inl h1)
    have d1 : s.toList.isEmpty = true := empty_size (by omega)
    go_enter Tryd.func45, Tryd.ntmps45
    go_wp2_with fail
    go_ret
    exact ⟨ret_b HR.out.symm, Ex.refl _⟩
  have d1 : s.toList.isEmpty = false := full_size (by omega)
  by_cases h6 : 12 < s.size
  · have HR : Hid (wordB s = false) := wordB_size (Or.inr h6)
    have d2 : decide ((12 : Int) < (s.size : Int)) = true := by simp; omega
    go_enter Tryd.func45, Tryd.ntmps45
    go_wp2_with fail
    go_ret
    exact ⟨ret_b HR.out.symm, Ex.refl _⟩
  have d2 : decide ((12 : Int) < (s.size : Int)) = false := by simp; omega
  go_enter Tryd.func45, Tryd.ntmps45
  go_wp2_with fail
  go_loopw [3, 13] (fun _ i wr => ∃ (k : Nat), k ≤ s.size ∧ i = .int .i64 k ∧ (∀ j, j < k → wletter (wbt s j) = true) ∧ Ex w wr) (fun _ i _ => s.size - (intOf i).toNat)
  case atStart => exact ⟨0, by omega, rfl, fun j hj => by omega, Ex.refl _⟩
  case round =>
    obtain ⟨k, hk, rfl, hall, hx⟩ := hrel
    have A : Hid (∀ j, j < k → wletter (wbt s j) = true) := hall
    have X : Hid (Ex w wr) := hx
    clear hall hx
    by_cases hlt : k < s.size
    · have N : Hid (wletter (wbt s k) = false → wordB s = false) := wordB_no hlt
      have U : Hid (wletter (wbt s k) = true → ∀ j, j < k + 1 → wletter (wbt s j) = true) := fun h => upto_succ A.out h
      have HB : Hid _ := nameByte_any (wbt s k) wr
      rw [← wbt_at s k hlt] at HB N U
      have i0 : (0 : Int) ≤ (k : Int) := by omega
      have i1 : (k : Int) < (s.size : Int) := by omega
      go_wp2_with fail
      refine Calls.mono HB.out ?_
      rintro e w1 ⟨rfl, hb1⟩
      clear HB
      cases hL : wletter ((s[k]'hlt).toNat) with
      | false =>
        have HR : Hid (wordB s = false) := N.out hL
        go_wp2_with fail
        go_ret
        exact ⟨ret_b HR.out.symm, X.out.trans hb1⟩
      | true =>
        have HU : Hid _ := U.out hL
        clear hL
        go_wp2_with fail
        go_roundw
        case rel => exact ⟨k + 1, by omega, by go_num, HU.out, X.out.trans hb1⟩
        case measure => simp [intOf]; omega
    · have HR : Hid (wordB s = true) := wordB_yes (by omega) (by omega) fun i hi => A.out i (by omega)
      go_wp2_with fail
      go_ret
      exact ⟨ret_b HR.out.symm, X.out⟩

set_option maxHeartbeats 1000000 in
theorem pathOk_any (p : List Int) (a : Option Addr) (c : Nat) (w : World) (hP : PA w 0 p a) : Calls Tryd.prog 65 #[.slice a p.length c] w fun e w' => e = .returned (.bool (decide (p.length ≤ 4) && pathB p)) ∧ Ex w w' := by
  have P : Hid (∀ w', Ex w w' → PA w' 0 p a) := fun _ h => PA_below hP h
  clear hP
  by_cases h4 : 4 < p.length
  · have HR : Hid ((decide (p.length ≤ 4) && pathB p) = false) := by show _ = _; rw [decide_eq_false (by omega)]; rfl
    have d1 : decide ((4 : Int) < (p.length : Int)) = true := decide_eq_true (by omega)
    go_enter Tryd.func65, Tryd.ntmps65
    go_wp2_with fail
    go_ret
    exact ⟨ret_b HR.out.symm, Ex.refl _⟩
  have HD : Hid ((decide (p.length ≤ 4) && pathB p) = pathB p) := by show _ = _; rw [decide_eq_true (by omega)]; rfl
  have d1 : decide ((4 : Int) < (p.length : Int)) = false := decide_eq_false (by omega)
  go_enter Tryd.func65, Tryd.ntmps65
  go_wp2_with fail
  go_loopw [4, 10] (fun _ i wr => ∃ (j : Nat), j ≤ p.length ∧ i = .int .i64 j ∧ (∀ l, l < j → 0 ≤ p.getD l 0 ∧ p.getD l 0 ≤ 1) ∧ Ex w wr) (fun _ i _ => p.length - (intOf i).toNat)
  case atStart => exact ⟨0, by omega, rfl, fun j hj => by omega, Ex.refl _⟩
  case round =>
    obtain ⟨j, hj, rfl, hall, hx⟩ := hrel
    have A : Hid (∀ l, l < j → 0 ≤ p.getD l 0 ∧ p.getD l 0 ≤ 1) := hall
    have X : Hid (Ex w wr) := hx
    clear hall hx
    by_cases hlt : j < p.length
    · obtain ⟨b, o, rfl, hbs, _, hc⟩ := PA_at (P.out wr X.out) (by omega)
      have ck := hc j hlt
      have U : Hid ((0 ≤ p.getD j 0 ∧ p.getD j 0 ≤ 1) → ∀ l, l < j + 1 → 0 ≤ p.getD l 0 ∧ p.getD l 0 ≤ 1) := fun h => upto_succ A.out h
      have V : Hid (¬ (0 ≤ p.getD j 0 ∧ p.getD j 0 ≤ 1) → pathB p = false) := fun h => pathB_no hlt h
      obtain ⟨x, hxe⟩ : ∃ x, p.getD j 0 = x := ⟨_, rfl⟩
      rw [hxe] at ck U V
      clear hxe hc
      by_cases hx0 : x = 0
      · have HU : Hid _ := U.out (by omega)
        have e0 : (x != 0) = false := by simp [hx0]
        have X0 : Hid (x = 0) := hx0
        clear hx0 U V
        go_wp2_with fail
        go_roundw
        case rel => exact ⟨j + 1, by omega, by go_num, HU.out, X.out⟩
        case measure => simp [intOf]; omega
      have e0 : (x != 0) = true := by simp [hx0]
      by_cases hx1 : x = 1
      · have HU : Hid _ := U.out (by omega)
        have e1 : (x != 1) = false := by simp [hx1]
        have X0 : Hid (x = 1) := hx1
        clear hx0 hx1 U V
        go_wp2_with fail
        go_roundw
        case rel => exact ⟨j + 1, by omega, by go_num, HU.out, X.out⟩
        case measure => simp [intOf]; omega
      have e1 : (x != 1) = true := by simp [hx1]
      have HR : Hid ((decide (p.length ≤ 4) && pathB p) = false) := HD.out.trans (V.out (by omega))
      clear U V
      go_wp2_with fail
      go_ret
      exact ⟨ret_b HR.out.symm, X.out⟩
    · have HR : Hid ((decide (p.length ≤ 4) && pathB p) = true) := HD.out.trans (pathB_yes fun l hl => A.out l (by omega))
      go_wp2_with fail
      go_ret
      exact ⟨ret_b HR.out.symm, X.out⟩

set_option maxHeartbeats 1000000 in
theorem bodyNothing_any (b : BD) (ba : Option Addr) (bc : Nat) (z : TM) (za : Option Addr) (zc : Nat) (w : World) :
    Calls Tryd.prog 63 #[.agg #[.slice ba (blen b) bc, .slice za (tlen z) zc]] w fun e w' => e = .returned (.bool (decide (blen b = 0) && decide (tlen z = 0))) ∧ Ex w w' := by
  by_cases h1 : blen b = 0
  · have e1 : ((blen b : Int) == 0) = true := by rw [beq_iff_eq]; omega
    by_cases h2 : tlen z = 0
    · have e2 : ((tlen z : Int) == 0) = true := by rw [beq_iff_eq]; omega
      have HR : Hid ((decide (blen b = 0) && decide (tlen z = 0)) = true) := by show _ = _; rw [decide_eq_true h1, decide_eq_true h2]; rfl
      clear h1 h2
      go_enter Tryd.func63, Tryd.ntmps63
      go_wp2_with fail
      go_ret
      exact ⟨ret_b HR.out.symm, Ex.new _ _⟩
    · have e2 : ((tlen z : Int) == 0) = false := by rw [beq_eq_false_iff_ne]; omega
      have HR : Hid ((decide (blen b = 0) && decide (tlen z = 0)) = false) := by show _ = _; rw [decide_eq_true h1, decide_eq_false h2]; rfl
      clear h1 h2
      go_enter Tryd.func63, Tryd.ntmps63
      go_wp2_with fail
      go_ret
      exact ⟨ret_b HR.out.symm, Ex.new _ _⟩
  · have e1 : ((blen b : Int) == 0) = false := by rw [beq_eq_false_iff_ne]; omega
    have HR : Hid ((decide (blen b = 0) && decide (tlen z = 0)) = false) := by show _ = _; rw [decide_eq_false h1]; rfl
    clear h1
    go_enter Tryd.func63, Tryd.ntmps63
    go_wp2_with fail
    go_ret
    exact ⟨ret_b HR.out.symm, Ex.new _ _⟩

end Go.Proofs.YtgpdnoghlommeaaDoor

namespace Go.Proofs.YtgpdnoghlommeaaDoor

open Go.RowKit Go.Deep

attribute [local go_sem ↓] Go.wp_at_zero Go.wp_at_succ

/-- A term has just what its kind says, as the program asks it. -/
def tokB (k n : Int) (s : ByteArray) (p : List Int) (l : Nat) : Bool :=
  if k = 1 then decide (s.size = 0) && (decide (p.length = 0) && (decide (l = 0) && (decide (0 ≤ n) && decide (n ≤ 9999))))
  else if k = 2 then decide (n = 0) && (decide (p.length = 0) && decide (l = 0))
  else if k = 3 ∨ k = 4 ∨ k = 5 ∨ k = 6 then decide (n = 0) && (decide (s.size = 0) && (decide (p.length = 0) && decide (l = 2)))
  else if k = 7 then decide (n = 0) && (decide (s.size = 0) && ((decide (p.length ≤ 4) && pathB p) && decide (l = 1)))
  else if k = 8 then decide (n = 0) && (decide (s.size = 0) && ((decide (p.length ≤ 4) && pathB p) && decide (l = 2)))
  else false
theorem tokB_1 {n : Int} {s : ByteArray} {p : List Int} {l : Nat} : tokB 1 n s p l = (decide (s.size = 0) && (decide (p.length = 0) && (decide (l = 0) && (decide (0 ≤ n) && decide (n ≤ 9999))))) := rfl
theorem tokB_2 {n : Int} {s : ByteArray} {p : List Int} {l : Nat} : tokB 2 n s p l = (decide (n = 0) && (decide (p.length = 0) && decide (l = 0))) := rfl
theorem tokB_7 {n : Int} {s : ByteArray} {p : List Int} {l : Nat} : tokB 7 n s p l = (decide (n = 0) && (decide (s.size = 0) && ((decide (p.length ≤ 4) && pathB p) && decide (l = 1)))) := rfl
theorem tokB_8 {n : Int} {s : ByteArray} {p : List Int} {l : Nat} : tokB 8 n s p l = (decide (n = 0) && (decide (s.size = 0) && ((decide (p.length ≤ 4) && pathB p) && decide (l = 2)))) := rfl
theorem tokB_3 {k n : Int} {s : ByteArray} {p : List Int} {l : Nat} (h : k = 3 ∨ k = 4 ∨ k = 5 ∨ k = 6) : tokB k n s p l = (decide (n = 0) && (decide (s.size = 0) && (decide (p.length = 0) && decide (l = 2)))) := by
  unfold tokB; rw [if_neg (by omega), if_neg (by omega), if_pos h]
theorem tokB_o {k n : Int} {s : ByteArray} {p : List Int} {l : Nat} (h : ¬ (1 ≤ k ∧ k ≤ 8)) : tokB k n s p l = false := by
  unfold tokB; rw [if_neg (by omega), if_neg (by omega), if_neg (by omega), if_neg (by omega), if_neg (by omega)]

theorem dec_n (n : Int) : decide (n = 0) = (n == 0) := by
  by_cases h : n = 0
  · rw [decide_eq_true h, beq_iff_eq.mpr h]
  · rw [decide_eq_false h, beq_eq_false_iff_ne.mpr h]
theorem dec_s (s : ByteArray) : decide (s.size = 0) = s.toList.isEmpty := by
  by_cases h : s.size = 0
  · rw [decide_eq_true h, empty_size h]
  · rw [decide_eq_false h, full_size h]
theorem dec_l (l m : Nat) : decide (l = m) = ((l : Int) == (m : Int)) := by
  by_cases h : l = m
  · rw [decide_eq_true h, beq_iff_eq.mpr (by omega)]
  · rw [decide_eq_false h, beq_eq_false_iff_ne.mpr (by omega)]

set_option maxRecDepth 100000 in
set_option maxHeartbeats 4000000 in
theorem termOk_any (k n : Int) (s : ByteArray) (p : List Int) (pa : Option Addr) (pc l : Nat) (a : Option Addr) (c : Nat) (w : World) (hP : PA w 0 p pa) :
    Calls Tryd.prog 64 #[.agg #[.int .i64 k, .int .i64 n, .string s, .slice pa p.length pc, .slice a l c]] w fun e w' => e = .returned (.bool (tokB k n s p l)) ∧ Ex w w' := by
  have P : Hid (∀ w', Ex w w' → PA w' 0 p pa) := fun _ h => PA_below hP h
  have N : Hid (Ex w (w.alloc (.cells #[.int .i64 k, .int .i64 n, .string s, .slice pa p.length pc, .slice a l c] 87))) := Ex.new _ _
  have C : Hid (∀ w', Ex (w.alloc (.cells #[.int .i64 k, .int .i64 n, .string s, .slice pa p.length pc, .slice a l c] 87)) w' → w'.cell? ⟨w.heap.size, 0, none⟩ = some (.int .i64 k) ∧ w'.cell? ⟨w.heap.size, 1, none⟩ = some (.int .i64 n) ∧ w'.cell? ⟨w.heap.size, 2, none⟩ = some (.string s) ∧ w'.cell? ⟨w.heap.size, 3, none⟩ = some (.slice pa p.length pc) ∧ w'.cell? ⟨w.heap.size, 4, none⟩ = some (.slice a l c)) := fun w' h => ⟨h.at (by simp), h.at (by simp), h.at (by simp), h.at (by simp), h.at (by simp)⟩
  have KS : Hid (∀ w', Ex (w.alloc (.cells #[.int .i64 k, .int .i64 n, .string s, .slice pa p.length pc, .slice a l c] 87)) w' → (Ex (w.alloc (.cells #[.int .i64 k, .int .i64 n, .string s, .slice pa p.length pc, .slice a l c] 87)) w' ∧ w'.cell? ⟨w.heap.size, 0, none⟩ = some (.int .i64 k) ∧ w'.cell? ⟨w.heap.size, 1, none⟩ = some (.int .i64 n) ∧ w'.cell? ⟨w.heap.size, 2, none⟩ = some (.string s) ∧ w'.cell? ⟨w.heap.size, 3, none⟩ = some (.slice pa p.length pc) ∧ w'.cell? ⟨w.heap.size, 4, none⟩ = some (.slice a l c))) := fun w' h => ⟨h, C.out w' h⟩
  clear hP
  obtain ⟨R, hR⟩ : ∃ R, R = tokB k n s p l := ⟨_, rfl⟩
  have RR : Hid (R = tokB k n s p l) := hR
  rw [← hR]
  obtain ⟨bn, hbn⟩ : ∃ b, (n == 0) = b := ⟨_, rfl⟩
  obtain ⟨bs, hbs⟩ : ∃ b, s.toList.isEmpty = b := ⟨_, rfl⟩
  obtain ⟨bp, hbp⟩ : ∃ b, ((p.length : Int) == 0) = b := ⟨_, rfl⟩
  have Dn : Hid (decide (n = 0) = bn) := (dec_n n).trans hbn
  have Ds : Hid (decide (s.size = 0) = bs) := (dec_s s).trans hbs
  have Dp : Hid (decide (p.length = 0) = bp) := (dec_l p.length 0).trans hbp
  obtain ⟨bq, hbq⟩ : ∃ b, (decide (p.length ≤ 4) && pathB p) = b := ⟨_, rfl⟩
  have Dq : Hid ((decide (p.length ≤ 4) && pathB p) = bq) := hbq
  have PO : Hid (∀ w', Ex w w' → Calls Tryd.prog 65 #[.slice pa p.length pc] w' fun e w'' => e = .returned (.bool bq) ∧ Ex w' w'') := fun w' h => by have := pathOk_any p pa pc w' (P.out w' h); rw [Dq.out] at this; exact this
  clear hR hbq
  go_enter Tryd.func64, Tryd.ntmps64
  go_wp2_with fail
  refine wp_region_held_drew (S := fun w' => Ex (w.alloc (.cells #[.int .i64 k, .int .i64 n, .string s, .slice pa p.length pc, .slice a l c] 87)) w' ∧ w'.cell? ⟨w.heap.size, 0, none⟩ = some (.int .i64 k) ∧ w'.cell? ⟨w.heap.size, 1, none⟩ = some (.int .i64 n) ∧ w'.cell? ⟨w.heap.size, 2, none⟩ = some (.string s) ∧ w'.cell? ⟨w.heap.size, 3, none⟩ = some (.slice pa p.length pc) ∧ w'.cell? ⟨w.heap.size, 4, none⟩ = some (.slice a l c)) (by kernel_rfl) (KS.out _ (Ex.refl _).drew) (fun hHeld => ?_)
  refine wpAnyH_take (i := 0) (v := ?_) rfl (by kernel_rfl) (by kernel_rfl) (by kernel_rfl) (fun _ _ _ h => h) (Or.inl ⟨by rfl, ?_⟩) (by assumption) ?_
  rotate_left
  · (intro w' hSw; (try dsimp only at hSw); go_simp) <;> with_reducible rfl
  change wpAnyH Tryd.prog _ _ _ _ _ _ (Act.put _ (some 6) _) _
  (try simp only [Act.put, List.setIfInBounds_toArray, List.set_cons_zero, List.set_cons_succ])
  refine wpAnyH_take (i := 1) (v := ?_) rfl (by kernel_rfl) (by kernel_rfl) (by kernel_rfl) (fun _ _ _ h => h) (Or.inl ⟨by rfl, ?_⟩) (by assumption) ?_
  rotate_left
  · (intro w' hSw; (try dsimp only at hSw); go_simp) <;> with_reducible rfl
  change wpAnyH Tryd.prog _ _ _ _ _ _ (Act.put _ (some 7) _) _
  (try simp only [Act.put, List.setIfInBounds_toArray, List.set_cons_zero, List.set_cons_succ])
  refine wpAnyH_take (i := 2) (v := ?_) rfl (by kernel_rfl) (by kernel_rfl) (by kernel_rfl) (fun _ _ _ h => h) (Or.inl ⟨by rfl, ?_⟩) (by assumption) ?_
  rotate_left
  · (intro w' hSw; (try dsimp only at hSw); go_simp) <;> with_reducible rfl
  change wpAnyH Tryd.prog _ _ _ _ _ _ (Act.put _ (some 8) _) _
  (try simp only [Act.put, List.setIfInBounds_toArray, List.set_cons_zero, List.set_cons_succ])
  refine wpAnyH_take (i := 3) (v := ?_) rfl (by kernel_rfl) (by kernel_rfl) (by kernel_rfl) (fun _ _ _ h => h) (Or.inl ⟨by rfl, ?_⟩) (by assumption) ?_
  rotate_left
  · (intro w' hSw; (try dsimp only at hSw); go_simp) <;> with_reducible rfl
  change wpAnyH Tryd.prog _ _ _ _ _ _ (Act.put _ (some 9) _) _
  (try simp only [Act.put, List.setIfInBounds_toArray, List.set_cons_zero, List.set_cons_succ])
  refine wpAnyH_take (i := 4) (v := ?_) rfl (by kernel_rfl) (by kernel_rfl) (by kernel_rfl) (fun _ _ _ h => h) (Or.inl ⟨by rfl, ?_⟩) (by assumption) ?_
  rotate_left
  · (intro w' hSw; (try dsimp only at hSw); go_simp) <;> with_reducible rfl
  change wpAnyH Tryd.prog _ _ _ _ _ _ (Act.put _ (some 10) _) _
  (try simp only [Act.put, List.setIfInBounds_toArray, List.set_cons_zero, List.set_cons_succ])
  refine wpAnyH_take (i := 5) (v := ?_) rfl (by kernel_rfl) (by kernel_rfl) (by kernel_rfl) (fun _ _ _ h => h) (Or.inl ⟨by rfl, ?_⟩) (by assumption) ?_
  rotate_left
  · (intro w' hSw; (try dsimp only at hSw); go_simp) <;> with_reducible rfl
  change wpAnyH Tryd.prog _ _ _ _ _ _ (Act.put _ (some 11) _) _
  (try simp only [Act.put, List.setIfInBounds_toArray, List.set_cons_zero, List.set_cons_succ])
  refine wpAnyH_take (i := 6) (v := ?_) rfl (by kernel_rfl) (by kernel_rfl) (by kernel_rfl) (fun _ _ _ h => h) (Or.inl ⟨by rfl, ?_⟩) (by assumption) ?_
  rotate_left
  · (intro w' hSw; (try dsimp only at hSw); go_simp) <;> with_reducible rfl
  change wpAnyH Tryd.prog _ _ _ _ _ _ (Act.put _ (some 12) _) _
  (try simp only [Act.put, List.setIfInBounds_toArray, List.set_cons_zero, List.set_cons_succ])
  refine wpAnyH_take (i := 7) (v := ?_) rfl (by kernel_rfl) (by kernel_rfl) (by kernel_rfl) (fun _ _ _ h => h) (Or.inl ⟨by rfl, ?_⟩) (by assumption) ?_
  rotate_left
  · (intro w' hSw; (try dsimp only at hSw); go_simp) <;> with_reducible rfl
  change wpAnyH Tryd.prog _ _ _ _ _ _ (Act.put _ (some 13) _) _
  (try simp only [Act.put, List.setIfInBounds_toArray, List.set_cons_zero, List.set_cons_succ])
  refine wpAnyH_take (i := 8) (v := ?_) rfl (by kernel_rfl) (by kernel_rfl) (by kernel_rfl) (fun _ _ _ h => h) (Or.inl ⟨by rfl, ?_⟩) (by assumption) ?_
  rotate_left
  · (intro w' hSw; (try dsimp only at hSw); go_simp) <;> with_reducible rfl
  change wpAnyH Tryd.prog _ _ _ _ _ _ (Act.put _ (some 14) _) _
  (try simp only [Act.put, List.setIfInBounds_toArray, List.set_cons_zero, List.set_cons_succ])
  refine wpAnyH_take (i := 9) (v := ?_) rfl (by kernel_rfl) (by kernel_rfl) (by kernel_rfl) (fun _ _ _ h => h) (Or.inl ⟨by rfl, ?_⟩) (by assumption) ?_
  rotate_left
  · (intro w' hSw; (try dsimp only at hSw); go_simp) <;> with_reducible rfl
  change wpAnyH Tryd.prog _ _ _ _ _ _ (Act.put _ (some 15) _) _
  (try simp only [Act.put, List.setIfInBounds_toArray, List.set_cons_zero, List.set_cons_succ])
  refine wpAnyH_take (i := 10) (v := ?_) rfl (by kernel_rfl) (by kernel_rfl) (by kernel_rfl) (fun _ _ _ h => h) (Or.inl ⟨by rfl, ?_⟩) (by assumption) ?_
  rotate_left
  · (intro w' hSw; (try dsimp only at hSw); go_simp) <;> with_reducible rfl
  change wpAnyH Tryd.prog _ _ _ _ _ _ (Act.put _ (some 3) _) _
  (try simp only [Act.put, List.setIfInBounds_toArray, List.set_cons_zero, List.set_cons_succ])
  refine wpAnyH_take (i := 11) (v := ?_) rfl (by kernel_rfl) (by kernel_rfl) (by kernel_rfl) (fun _ _ _ h => h) (Or.inl ⟨by rfl, ?_⟩) (by assumption) ?_
  rotate_left
  · (intro w' hSw; (try dsimp only at hSw); go_simp) <;> with_reducible rfl
  change wpAnyH Tryd.prog _ _ _ _ _ _ (Act.put _ (some 4) _) _
  (try simp only [Act.put, List.setIfInBounds_toArray, List.set_cons_zero, List.set_cons_succ])
  refine wpAnyH_take (i := 12) (v := ?_) rfl (by kernel_rfl) (by kernel_rfl) (by kernel_rfl) (fun _ _ _ h => h) (Or.inl ⟨by rfl, ?_⟩) (by assumption) ?_
  rotate_left
  · (intro w' hSw; (try dsimp only at hSw); go_simp) <;> with_reducible rfl
  change wpAnyH Tryd.prog _ _ _ _ _ _ (Act.put _ (some 5) _) _
  (try simp only [Act.put, List.setIfInBounds_toArray, List.set_cons_zero, List.set_cons_succ])
  refine wpAnyH_done (by kernel_rfl) ?_ _

  obtain ⟨hx1, c0, c1, c2, c3, c4⟩ := hHeld
  have X1 : Hid (Ex (w.alloc (.cells #[.int .i64 k, .int .i64 n, .string s, .slice pa p.length pc, .slice a l c] 87)) _) := hx1
  clear hx1 hbn hbs hbp
  by_cases k1 : k = 1
  · subst k1
    cases bs with
    | false =>
      have HV : Hid (R = false) := RR.out.trans (by rw [tokB_1, Ds.out]; rfl)
      go_wp2_with fail
      go_ret
      exact ⟨ret_b HV.out.symm, N.out.trans X1.out⟩
    | true =>
      cases bp with
      | false =>
        have HV : Hid (R = false) := RR.out.trans (by rw [tokB_1, Ds.out, Dp.out]; rfl)
        go_wp2_with fail
        go_ret
        exact ⟨ret_b HV.out.symm, N.out.trans X1.out⟩
      | true =>
        by_cases hl : l = 0
        · have l1 : ((l : Int) == 0) = true := by rw [beq_iff_eq]; omega
          have HL : Hid (l = 0) := hl
          clear hl
          by_cases hn0 : 0 ≤ n
          · have hn01 : decide (0 ≤ n) = true := decide_eq_true hn0
            by_cases hn9 : n ≤ 9999
            · have hn91 : decide (n ≤ 9999) = true := decide_eq_true hn9
              have HV : Hid (R = true) := RR.out.trans (by rw [tokB_1, Ds.out, Dp.out, decide_eq_true HL.out, decide_eq_true hn0, decide_eq_true hn9]; rfl)
              go_wp2_with fail
              go_ret
              exact ⟨ret_b HV.out.symm, N.out.trans X1.out⟩
            · have hn91 : decide (n ≤ 9999) = false := decide_eq_false hn9
              have HV : Hid (R = false) := RR.out.trans (by rw [tokB_1, Ds.out, Dp.out, decide_eq_true HL.out, decide_eq_true hn0, decide_eq_false hn9]; rfl)
              go_wp2_with fail
              go_ret
              exact ⟨ret_b HV.out.symm, N.out.trans X1.out⟩
          · have hn01 : decide (0 ≤ n) = false := decide_eq_false hn0
            have HV : Hid (R = false) := RR.out.trans (by rw [tokB_1, Ds.out, Dp.out, decide_eq_true HL.out, decide_eq_false hn0]; rfl)
            go_wp2_with fail
            go_ret
            exact ⟨ret_b HV.out.symm, N.out.trans X1.out⟩
        · have l1 : ((l : Int) == 0) = false := by rw [beq_eq_false_iff_ne]; omega
          have HV : Hid (R = false) := RR.out.trans (by rw [tokB_1, Ds.out, Dp.out, decide_eq_false hl]; rfl)
          go_wp2_with fail
          go_ret
          exact ⟨ret_b HV.out.symm, N.out.trans X1.out⟩
  by_cases k2 : k = 2
  · subst k2
    cases bn with
    | false =>
      have HV : Hid (R = false) := RR.out.trans (by rw [tokB_2, Dn.out]; rfl)
      go_wp2_with fail
      go_ret
      exact ⟨ret_b HV.out.symm, N.out.trans X1.out⟩
    | true =>
      cases bp with
      | false =>
        have HV : Hid (R = false) := RR.out.trans (by rw [tokB_2, Dn.out, Dp.out]; rfl)
        go_wp2_with fail
        go_ret
        exact ⟨ret_b HV.out.symm, N.out.trans X1.out⟩
      | true =>
        by_cases hl : l = 0
        · have l1 : ((l : Int) == 0) = true := by rw [beq_iff_eq]; omega
          have HL : Hid (l = 0) := hl
          clear hl
          have HV : Hid (R = true) := RR.out.trans (by rw [tokB_2, Dn.out, Dp.out, decide_eq_true HL.out]; rfl)
          go_wp2_with fail
          go_ret
          exact ⟨ret_b HV.out.symm, N.out.trans X1.out⟩
        · have l1 : ((l : Int) == 0) = false := by rw [beq_eq_false_iff_ne]; omega
          have HV : Hid (R = false) := RR.out.trans (by rw [tokB_2, Dn.out, Dp.out, decide_eq_false hl]; rfl)
          go_wp2_with fail
          go_ret
          exact ⟨ret_b HV.out.symm, N.out.trans X1.out⟩
  by_cases k3 : k = 3
  · subst k3
    cases bn with
    | false =>
      have HV : Hid (R = false) := RR.out.trans (by rw [tokB_3 (by omega), Dn.out]; rfl)
      go_wp2_with fail
      go_ret
      exact ⟨ret_b HV.out.symm, N.out.trans X1.out⟩
    | true =>
      cases bs with
      | false =>
        have HV : Hid (R = false) := RR.out.trans (by rw [tokB_3 (by omega), Dn.out, Ds.out]; rfl)
        go_wp2_with fail
        go_ret
        exact ⟨ret_b HV.out.symm, N.out.trans X1.out⟩
      | true =>
        cases bp with
        | false =>
          have HV : Hid (R = false) := RR.out.trans (by rw [tokB_3 (by omega), Dn.out, Ds.out, Dp.out]; rfl)
          go_wp2_with fail
          go_ret
          exact ⟨ret_b HV.out.symm, N.out.trans X1.out⟩
        | true =>
          by_cases hl : l = 2
          · have l1 : ((l : Int) == 2) = true := by rw [beq_iff_eq]; omega
            have HL : Hid (l = 2) := hl
            clear hl
            have HV : Hid (R = true) := RR.out.trans (by rw [tokB_3 (by omega), Dn.out, Ds.out, Dp.out, decide_eq_true HL.out]; rfl)
            go_wp2_with fail
            go_ret
            exact ⟨ret_b HV.out.symm, N.out.trans X1.out⟩
          · have l1 : ((l : Int) == 2) = false := by rw [beq_eq_false_iff_ne]; omega
            have HV : Hid (R = false) := RR.out.trans (by rw [tokB_3 (by omega), Dn.out, Ds.out, Dp.out, decide_eq_false hl]; rfl)
            go_wp2_with fail
            go_ret
            exact ⟨ret_b HV.out.symm, N.out.trans X1.out⟩
  by_cases k4 : k = 4
  · subst k4
    cases bn with
    | false =>
      have HV : Hid (R = false) := RR.out.trans (by rw [tokB_3 (by omega), Dn.out]; rfl)
      go_wp2_with fail
      go_ret
      exact ⟨ret_b HV.out.symm, N.out.trans X1.out⟩
    | true =>
      cases bs with
      | false =>
        have HV : Hid (R = false) := RR.out.trans (by rw [tokB_3 (by omega), Dn.out, Ds.out]; rfl)
        go_wp2_with fail
        go_ret
        exact ⟨ret_b HV.out.symm, N.out.trans X1.out⟩
      | true =>
        cases bp with
        | false =>
          have HV : Hid (R = false) := RR.out.trans (by rw [tokB_3 (by omega), Dn.out, Ds.out, Dp.out]; rfl)
          go_wp2_with fail
          go_ret
          exact ⟨ret_b HV.out.symm, N.out.trans X1.out⟩
        | true =>
          by_cases hl : l = 2
          · have l1 : ((l : Int) == 2) = true := by rw [beq_iff_eq]; omega
            have HL : Hid (l = 2) := hl
            clear hl
            have HV : Hid (R = true) := RR.out.trans (by rw [tokB_3 (by omega), Dn.out, Ds.out, Dp.out, decide_eq_true HL.out]; rfl)
            go_wp2_with fail
            go_ret
            exact ⟨ret_b HV.out.symm, N.out.trans X1.out⟩
          · have l1 : ((l : Int) == 2) = false := by rw [beq_eq_false_iff_ne]; omega
            have HV : Hid (R = false) := RR.out.trans (by rw [tokB_3 (by omega), Dn.out, Ds.out, Dp.out, decide_eq_false hl]; rfl)
            go_wp2_with fail
            go_ret
            exact ⟨ret_b HV.out.symm, N.out.trans X1.out⟩
  by_cases k5 : k = 5
  · subst k5
    cases bn with
    | false =>
      have HV : Hid (R = false) := RR.out.trans (by rw [tokB_3 (by omega), Dn.out]; rfl)
      go_wp2_with fail
      go_ret
      exact ⟨ret_b HV.out.symm, N.out.trans X1.out⟩
    | true =>
      cases bs with
      | false =>
        have HV : Hid (R = false) := RR.out.trans (by rw [tokB_3 (by omega), Dn.out, Ds.out]; rfl)
        go_wp2_with fail
        go_ret
        exact ⟨ret_b HV.out.symm, N.out.trans X1.out⟩
      | true =>
        cases bp with
        | false =>
          have HV : Hid (R = false) := RR.out.trans (by rw [tokB_3 (by omega), Dn.out, Ds.out, Dp.out]; rfl)
          go_wp2_with fail
          go_ret
          exact ⟨ret_b HV.out.symm, N.out.trans X1.out⟩
        | true =>
          by_cases hl : l = 2
          · have l1 : ((l : Int) == 2) = true := by rw [beq_iff_eq]; omega
            have HL : Hid (l = 2) := hl
            clear hl
            have HV : Hid (R = true) := RR.out.trans (by rw [tokB_3 (by omega), Dn.out, Ds.out, Dp.out, decide_eq_true HL.out]; rfl)
            go_wp2_with fail
            go_ret
            exact ⟨ret_b HV.out.symm, N.out.trans X1.out⟩
          · have l1 : ((l : Int) == 2) = false := by rw [beq_eq_false_iff_ne]; omega
            have HV : Hid (R = false) := RR.out.trans (by rw [tokB_3 (by omega), Dn.out, Ds.out, Dp.out, decide_eq_false hl]; rfl)
            go_wp2_with fail
            go_ret
            exact ⟨ret_b HV.out.symm, N.out.trans X1.out⟩
  by_cases k6 : k = 6
  · subst k6
    cases bn with
    | false =>
      have HV : Hid (R = false) := RR.out.trans (by rw [tokB_3 (by omega), Dn.out]; rfl)
      go_wp2_with fail
      go_ret
      exact ⟨ret_b HV.out.symm, N.out.trans X1.out⟩
    | true =>
      cases bs with
      | false =>
        have HV : Hid (R = false) := RR.out.trans (by rw [tokB_3 (by omega), Dn.out, Ds.out]; rfl)
        go_wp2_with fail
        go_ret
        exact ⟨ret_b HV.out.symm, N.out.trans X1.out⟩
      | true =>
        cases bp with
        | false =>
          have HV : Hid (R = false) := RR.out.trans (by rw [tokB_3 (by omega), Dn.out, Ds.out, Dp.out]; rfl)
          go_wp2_with fail
          go_ret
          exact ⟨ret_b HV.out.symm, N.out.trans X1.out⟩
        | true =>
          by_cases hl : l = 2
          · have l1 : ((l : Int) == 2) = true := by rw [beq_iff_eq]; omega
            have HL : Hid (l = 2) := hl
            clear hl
            have HV : Hid (R = true) := RR.out.trans (by rw [tokB_3 (by omega), Dn.out, Ds.out, Dp.out, decide_eq_true HL.out]; rfl)
            go_wp2_with fail
            go_ret
            exact ⟨ret_b HV.out.symm, N.out.trans X1.out⟩
          · have l1 : ((l : Int) == 2) = false := by rw [beq_eq_false_iff_ne]; omega
            have HV : Hid (R = false) := RR.out.trans (by rw [tokB_3 (by omega), Dn.out, Ds.out, Dp.out, decide_eq_false hl]; rfl)
            go_wp2_with fail
            go_ret
            exact ⟨ret_b HV.out.symm, N.out.trans X1.out⟩
  by_cases k7 : k = 7
  · subst k7
    cases bn with
    | false =>
      have HV : Hid (R = false) := RR.out.trans (by rw [tokB_7, Dn.out]; rfl)
      go_wp2_with fail
      go_ret
      exact ⟨ret_b HV.out.symm, N.out.trans X1.out⟩
    | true =>
      cases bs with
      | false =>
        have HV : Hid (R = false) := RR.out.trans (by rw [tokB_7, Dn.out, Ds.out]; rfl)
        go_wp2_with fail
        go_ret
        exact ⟨ret_b HV.out.symm, N.out.trans X1.out⟩
      | true =>
        go_wp2_with fail
        refine (PO.out _ (N.out.trans X1.out)).mono ?_
        rintro e w2 ⟨rfl, hb2⟩
        clear c0 c1 c2 c3 c4
        obtain ⟨c0, c1, c2, c3, c4⟩ := C.out w2 (X1.out.trans hb2)
        cases bq with
        | false =>
          have HV : Hid (R = false) := RR.out.trans (by rw [tokB_7, Dn.out, Ds.out, Dq.out]; rfl)
          go_wp2_with fail
          go_ret
          exact ⟨ret_b HV.out.symm, N.out.trans (X1.out.trans hb2)⟩
        | true =>
          by_cases hl : l = 1
          · have l1 : ((l : Int) == 1) = true := by rw [beq_iff_eq]; omega
            have HL : Hid (l = 1) := hl
            clear hl
            have HV : Hid (R = true) := RR.out.trans (by rw [tokB_7, Dn.out, Ds.out, Dq.out, decide_eq_true HL.out]; rfl)
            go_wp2_with fail
            go_ret
            exact ⟨ret_b HV.out.symm, N.out.trans (X1.out.trans hb2)⟩
          · have l1 : ((l : Int) == 1) = false := by rw [beq_eq_false_iff_ne]; omega
            have HV : Hid (R = false) := RR.out.trans (by rw [tokB_7, Dn.out, Ds.out, Dq.out, decide_eq_false hl]; rfl)
            go_wp2_with fail
            go_ret
            exact ⟨ret_b HV.out.symm, N.out.trans (X1.out.trans hb2)⟩
  by_cases k8 : k = 8
  · subst k8
    cases bn with
    | false =>
      have HV : Hid (R = false) := RR.out.trans (by rw [tokB_8, Dn.out]; rfl)
      go_wp2_with fail
      go_ret
      exact ⟨ret_b HV.out.symm, N.out.trans X1.out⟩
    | true =>
      cases bs with
      | false =>
        have HV : Hid (R = false) := RR.out.trans (by rw [tokB_8, Dn.out, Ds.out]; rfl)
        go_wp2_with fail
        go_ret
        exact ⟨ret_b HV.out.symm, N.out.trans X1.out⟩
      | true =>
        go_wp2_with fail
        refine (PO.out _ (N.out.trans X1.out)).mono ?_
        rintro e w2 ⟨rfl, hb2⟩
        clear c0 c1 c2 c3 c4
        obtain ⟨c0, c1, c2, c3, c4⟩ := C.out w2 (X1.out.trans hb2)
        cases bq with
        | false =>
          have HV : Hid (R = false) := RR.out.trans (by rw [tokB_8, Dn.out, Ds.out, Dq.out]; rfl)
          go_wp2_with fail
          go_ret
          exact ⟨ret_b HV.out.symm, N.out.trans (X1.out.trans hb2)⟩
        | true =>
          by_cases hl : l = 2
          · have l1 : ((l : Int) == 2) = true := by rw [beq_iff_eq]; omega
            have HL : Hid (l = 2) := hl
            clear hl
            have HV : Hid (R = true) := RR.out.trans (by rw [tokB_8, Dn.out, Ds.out, Dq.out, decide_eq_true HL.out]; rfl)
            go_wp2_with fail
            go_ret
            exact ⟨ret_b HV.out.symm, N.out.trans (X1.out.trans hb2)⟩
          · have l1 : ((l : Int) == 2) = false := by rw [beq_eq_false_iff_ne]; omega
            have HV : Hid (R = false) := RR.out.trans (by rw [tokB_8, Dn.out, Ds.out, Dq.out, decide_eq_false hl]; rfl)
            go_wp2_with fail
            go_ret
            exact ⟨ret_b HV.out.symm, N.out.trans (X1.out.trans hb2)⟩
  have q1 : (k == 1) = false := by rw [beq_eq_false_iff_ne]; exact k1
  have q2 : (k == 2) = false := by rw [beq_eq_false_iff_ne]; exact k2
  have q3 : (k == 3) = false := by rw [beq_eq_false_iff_ne]; exact k3
  have q4 : (k == 4) = false := by rw [beq_eq_false_iff_ne]; exact k4
  have q5 : (k == 5) = false := by rw [beq_eq_false_iff_ne]; exact k5
  have q6 : (k == 6) = false := by rw [beq_eq_false_iff_ne]; exact k6
  have q7 : (k == 7) = false := by rw [beq_eq_false_iff_ne]; exact k7
  have q8 : (k == 8) = false := by rw [beq_eq_false_iff_ne]; exact k8
  have HV : Hid (R = false) := RR.out.trans (tokB_o (by omega))
  go_wp2_with fail
  go_ret
  exact ⟨ret_b HV.out.symm, N.out.trans X1.out⟩

end Go.Proofs.YtgpdnoghlommeaaDoor

namespace Go.Proofs.YtgpdnoghlommeaaDoor

open Go.RowKit Go.Deep Go.Maps Go.WideMaps

attribute [local go_sem ↓] Go.wp_at_zero Go.wp_at_succ

/-- How often a name is among names. -/
def cntN (ns : List ByteArray) (s : ByteArray) : Nat := (ns.filter fun t => t.toList == s.toList).length
theorem cntN_snoc (ns : List ByteArray) (t s : ByteArray) : cntN (ns ++ [t]) s = cntN ns s + (if (t.toList == s.toList) = true then 1 else 0) := by
  simp only [cntN, List.filter_append, List.length_append, List.filter_cons, List.filter_nil]
  by_cases h : (t.toList == s.toList) = true
  · simp [h]
  · simp [h]
theorem cntN_le (ns : List ByteArray) (s : ByteArray) : cntN ns s ≤ ns.length := List.length_filter_le _ _
theorem cntN_has (ns : List ByteArray) (s : ByteArray) : hasB ns s = decide (cntN ns s ≠ 0) := by
  cases h : hasB ns s with
  | true =>
    simp only [hasB, List.any_eq_true] at h
    obtain ⟨t, ht, he⟩ := h
    symm
    rw [decide_eq_true_eq]
    intro h0
    have := List.length_eq_zero_iff.mp h0
    have hm : t ∈ ns.filter (fun t => t.toList == s.toList) := List.mem_filter.2 ⟨ht, he⟩
    rw [this] at hm; cases hm
  | false =>
    simp only [hasB, List.any_eq_false] at h
    symm
    rw [decide_eq_false_iff_not]
    intro h0
    apply h0
    simp only [cntN]
    rw [List.length_eq_zero_iff, List.filter_eq_nil_iff]
    intro t ht
    simpa using h t ht
theorem cntN_same {ns : List ByteArray} {s t : ByteArray} (h : (s.toList == t.toList) = true) : cntN ns s = cntN ns t := by
  have : s.toList = t.toList := by simpa using h
  simp only [cntN, this]

theorem Tryd.keyed : Keyed Tryd.prog 9 := string_keyed Tryd.underlying9
theorem Tryd.zeroInt (w : World) : (zeroValue 3).run Tryd.prog w = .ok (.int .i64 0) w := by kernel_rfl

/-- A block is a map that holds of each name how often it is among names. -/
def CM (w : World) (mb n : Nat) (ns : List ByteArray) : Prop := ∃ D : DataW Unit, w.ownsMap Tryd.prog 9 (plainElem Tryd.prog 3) mb n D ∧ ∀ s : ByteArray, D.atKey (.string s.data.toList) (.lit (.int .i64 0)) = .lit (.int .i64 (cntN ns s : Int))
theorem CM_made (w : World) : CM (w.alloc (.map #[] 0)) w.heap.size 0 [] := ⟨_, World.ownsMap_made w _ _ _, fun _ => rfl⟩
theorem CM.blk {w w' : World} {mb n : Nat} {ns : List ByteArray} (h : CM w mb n ns) (hb : w'.heap[mb]? = w.heap[mb]?) : CM w' mb n ns := by
  obtain ⟨D, ⟨es, cl, h1, h2⟩, h3⟩ := h
  exact ⟨D, ⟨es, cl, hb.trans h1, h2⟩, h3⟩
theorem CM.lt {w : World} {mb n : Nat} {ns : List ByteArray} (h : CM w mb n ns) : mb < w.heap.size := by
  obtain ⟨D, h1, _⟩ := h
  exact h1.lt
theorem CM.ex {w w' : World} {mb n : Nat} {ns : List ByteArray} (h : CM w mb n ns) (hx : Ex w w') : CM w' mb n ns := h.blk (hx.block mb h.lt)
theorem CM.drew {w : World} {mb n : Nat} {ns : List ByteArray} (h : CM w mb n ns) : CM w.drew mb n ns := h.blk rfl
theorem CM.ne {w : World} {mb n : Nat} {ns : List ByteArray} (h : CM w mb n ns) {p : Addr} {v : Value} (hc : w.cell? p = some v) : p.block ≠ mb := by
  obtain ⟨D, ⟨es, cl, h1, h2⟩, h3⟩ := h
  intro e
  simp [World.cell?, e, h1] at hc
theorem key_string {s : ByteArray} (hs : s.size ≤ 9223372036854775807) : keyOf Tryd.prog 9 (.string s) = some (.string s.data.toList) := keyOf_string_mk Tryd.underlying9 (by unfold maxLen; omega)
/-- A name asked for. -/
theorem CM.look {w : World} {mb n : Nat} {ns : List ByteArray} (h : CM w mb n ns) {s : ByteArray} (hs : s.size ≤ 9223372036854775807) : (Instr.lookup 104 (.map (some mb)) (.string s) false).run Tryd.prog w = .ok (.int .i64 (cntN ns s : Int)) w := by
  obtain ⟨D, h1, h2⟩ := h
  obtain ⟨c, hr, hc, _⟩ := h1.lookup_int Tryd.keyed Tryd.underlying104 Tryd.underlying3 (Tryd.zeroInt _) (key_string hs)
  have e : DataW.lit (H := Unit) (.int .i64 c) = .lit (.int .i64 (cntN ns s : Int)) := hc.symm.trans (h2 s)
  simp only [DataW.lit.injEq, Lit.int.injEq, true_and] at e
  rw [e] at hr; exact hr
theorem grown_fr {w w' : World} {b : Nat} (h : w.grownBy w' (some b)) : Fr b w w' := ⟨h.os, h.tape, h.output, h.size, fun k hk hn => h.block k hk (fun e => hn (Option.some.inj e))⟩
theorem byte_key {s t : ByteArray} : s.data.toList = t.data.toList ↔ (s.toList == t.toList) = true := by
  rw [beq_iff_eq, Go.ByteArray.toList_eq, Go.ByteArray.toList_eq]
theorem CM.put {w' : World} {mb n : Nat} {ns : List ByteArray} {s : ByteArray} {D : DataW Unit} (hD : IsMap D) (h2 : ∀ s : ByteArray, D.atKey (.string s.data.toList) (.lit (.int .i64 0)) = .lit (.int .i64 (cntN ns s : Int))) (h : w'.ownsMap Tryd.prog 9 (plainElem Tryd.prog 3) mb n (D.put (.string s.data.toList) (.lit (.int .i64 ((cntN ns s : Int) + 1))))) : CM w' mb n (ns ++ [s]) := by
  refine ⟨_, h, fun t => ?_⟩
  by_cases he : (s.toList == t.toList) = true
  · have e := byte_key.2 he
    rw [← e, atKey_put_same hD (k := .string s.data.toList) (by simp [WideAt.IsKeyLit]), cntN_snoc, if_pos he, ← cntN_same he]
    simp
  · rw [atKey_put_other (fun e => by injection e with e; exact he (byte_key.1 e.symm)), h2 t, cntN_snoc, if_neg he]
    simp

/-- A name counted once more: an operation of an ordered list. -/
theorem wpList_count {w : World} {ops : Array Oper} {rest : List Oper} {o : Oper} {a : Act} {Q : Exit → Act → World → Prop} (hg : o.guard = none) (m x v : Operand) (hop : o.op = Op.mapUpdate 104 m x v)
    (mb n : Nat) (ns : List ByteArray) (s : ByteArray) (hs : s.size ≤ 9223372036854775807) (hm : a.eval m = .map (some mb)) (hC : CM w mb n ns) (hn : n < 1000000) (hns : ns.length < 1000000) (hx : a.eval x = .string s) (hv : a.eval v = .int .i64 ((cntN ns s : Int) + 1))
    (hK : ∀ w', CM w' mb (n + 1) (ns ++ [s]) → Fr mb w w' → wpList Tryd.prog ops Q rest (a.put o.dst undef) w') : wpList Tryd.prog ops Q (o :: rest) a w := by
  obtain ⟨D, h1, h2⟩ := hC
  have hc := cntN_le ns s
  refine wpList_mapUpdate_own w hg m x v 104 hop 9 3 Tryd.keyed Tryd.underlying104 _ mb n D hm h1 (by unfold maxLen; omega) _ _ _ hx hv (key_string hs) _ [] (plainElem_int Tryd.underlying3 (WalkArith.wf_i64 (by omega))) ?_
  intro w' hown hgr
  exact hK w' (CM.put h1.isMap h2 hown) (grown_fr hgr)

end Go.Proofs.YtgpdnoghlommeaaDoor

namespace Go.Proofs.YtgpdnoghlommeaaDoor

open Go.RowKit Go.Deep Go.Maps Go.WideMaps

attribute [local go_sem ↓] Go.wp_at_zero Go.wp_at_succ

theorem take_snoc {p : List ByteArray} {k : Nat} (h : k < p.length) : p.take (k + 1) = p.take k ++ [p.getD k ⟨#[]⟩] := by
  rw [List.take_add_one, List.getElem?_eq_getElem h]
  simp [List.getD, h]

/-- Behind names that were bound. -/
def BindP (mb n : Nat) (ns p : List ByteArray) (w : World) (e : Ending) (w' : World) : Prop := e = .returned (.tuple #[]) ∧ CM w' mb (n + p.length) (ns ++ p) ∧ Fr mb w w'
set_option maxRecDepth 100000 in
set_option maxHeartbeats 2000000 in
theorem bind_any (aa : Option Addr) (al ac mb n : Nat) (ns p : List ByteArray) (xa : Option Addr) (xc : Nat) (w : World) (hC : CM w mb n ns) (hX : ∀ w', Fr mb w w' → XA w' 0 p xa) (hz : XLm p) (hn : n + p.length ≤ 999999) (hns : ns.length + p.length ≤ 999999) :
    Calls Tryd.prog 47 #[.agg #[.slice aa al ac, .map (some mb)], .slice xa p.length xc] w (BindP mb n ns p w) := by
  have hlt := hC.lt
  have N : Hid (Fr mb w (w.alloc (.cells #[.slice aa al ac, .map (some mb)] 106))) := Fr.of_ex (Ex.new _ _) _
  have C : Hid (∀ w', Fr mb (w.alloc (.cells #[.slice aa al ac, .map (some mb)] 106)) w' → w'.cell? ⟨w.heap.size, 1, none⟩ = some (.map (some mb))) := fun w' h => h.at (by show w.heap.size ≠ mb; omega) (by simp)
  have C0 : Hid (CM (w.alloc (.cells #[.slice aa al ac, .map (some mb)] 106)) mb n ns) := hC.ex (Ex.new _ _)
  have X : Hid (∀ w', Fr mb w w' → XA w' 0 p xa) := hX
  have Z : Hid (XLm p) := hz
  clear hC hX hz hlt
  go_enter Tryd.func47, Tryd.ntmps47
  go_wp2_with fail
  go_loopw [5, 8] (fun _ i wr => ∃ k : Nat, k ≤ p.length ∧ i = .int .i64 k ∧ CM wr mb (n + k) (ns ++ p.take k) ∧ Fr mb (w.alloc (.cells #[.slice aa al ac, .map (some mb)] 106)) wr) (fun _ i _ => p.length - (intOf i).toNat)
  case atStart => exact ⟨0, Nat.zero_le _, rfl, by rw [List.take_zero, List.append_nil]; exact C0.out, Fr.refl _ _⟩
  case round =>
    obtain ⟨k, hk, rfl, hCk, hF⟩ := hrel
    have CK : Hid _ := hCk
    have F : Hid (Fr mb (w.alloc (.cells #[.slice aa al ac, .map (some mb)] 106)) wr) := hF
    have cm := C.out wr hF
    clear hF
    by_cases hlt : k < p.length
    · obtain ⟨b, o, rfl, hbs, _, hc⟩ := XA_at (X.out wr (N.out.trans F.out)) (by omega)
      have ck := hc k hlt
      have hsz := Z.out k hlt
      have TS : Hid (p.take (k + 1) = p.take k ++ [p.getD k ⟨#[]⟩]) := take_snoc hlt
      obtain ⟨s, hs⟩ : ∃ s, p.getD k ⟨#[]⟩ = s := ⟨_, rfl⟩
      rw [hs] at ck hsz TS
      clear hc hs
      have hrun := hCk.look hsz
      have hcl := cntN_le (ns ++ p.take k) s
      rw [List.length_append, List.length_take] at hcl
      obtain ⟨c, hce⟩ : ∃ c, cntN (ns ++ p.take k) s = c := ⟨_, rfl⟩
      rw [hce] at hrun hcl
      have HV : Hid (Value.int .i64 ((c : Int) + 1) = Value.int .i64 ((cntN (ns ++ p.take k) s : Int) + 1)) := by show _ = _; rw [hce]
      have hcb : c ≤ 999999 := by omega
      have hl2 : (ns ++ p.take k).length < 1000000 := by rw [List.length_append, List.length_take]; omega
      have L2 : Hid _ := hl2
      have SZ : Hid _ := hsz
      clear hce hCk hcl hl2 hsz
      go_wp2_with (at_mapUpdate; refine wpList_count rfl _ _ _ rfl mb (n + k) (ns ++ p.take k) s SZ.out rfl CK.out (by omega) L2.out rfl HV.out ?_)
      intro w1 hC1 hF1
      have CN : Hid (CM w1 mb (n + (k + 1)) (ns ++ p.take (k + 1))) := by
        show CM _ _ _ _
        rw [TS.out, ← Nat.add_assoc]; first | exact hC1 | (rw [← List.append_assoc]; exact hC1)
      have F1 : Hid (Fr mb (w.alloc (.cells #[.slice aa al ac, .map (some mb)] 106)) w1) := F.out.trans hF1
      clear hC1 hF1 hrun cm ck CK
      go_wp2_with fail
      go_roundw
      case rel => exact ⟨k + 1, by omega, by go_num, CN.out, F1.out⟩
      case measure => simp [intOf]; omega
    · have CE : Hid (CM wr mb (n + p.length) (ns ++ p)) := by
        show CM _ _ _ _
        have e : k = p.length := by omega
        have := CK.out
        rw [e, List.take_length] at this; exact this
      clear hCk cm
      go_wp2_with fail
      go_end0
      exact ⟨rfl, CE.out, N.out.trans F.out⟩

/-- Names that may be bound together. -/
def namesB (nm : List ByteArray) : Bool := decide (nm.length ≤ 60) && uniqB nm

set_option maxRecDepth 100000 in
set_option maxHeartbeats 2000000 in
theorem namesOk_any (p : List ByteArray) (xa : Option Addr) (xc : Nat) (w : World) (hz : XLm p) (hX : XA w 0 p xa) :
    Calls Tryd.prog 46 #[.slice xa p.length xc] w fun e w' => e = .returned (.bool (namesB p)) ∧ Ex w w' := by
  have X : Hid (∀ w', Ex w w' → XA w' 0 p xa) := fun _ h => XA_below hX h
  have Z : Hid (XLm p) := hz
  clear hX hz
  obtain ⟨R, hR⟩ : ∃ R, R = namesB p := ⟨_, rfl⟩
  have RR : Hid (R = namesB p) := hR
  rw [← hR]
  clear hR
  by_cases h60 : 60 < p.length
  · have HR : Hid (R = false) := RR.out.trans (by rw [namesB, decide_eq_false (by omega)]; rfl)
    have d1 : decide ((60 : Int) < (p.length : Int)) = true := decide_eq_true (by omega)
    go_enter Tryd.func46, Tryd.ntmps46
    go_wp2_with fail
    go_ret
    exact ⟨ret_b HR.out.symm, Ex.refl _⟩
  have R2 : Hid (R = uniqB p) := RR.out.trans (by rw [namesB, decide_eq_true (by omega)]; rfl)
  have d1 : decide ((60 : Int) < (p.length : Int)) = false := decide_eq_false (by omega)
  have hmm := @run_makeMap Tryd.prog
  clear RR
  go_enter Tryd.func46, Tryd.ntmps46
  go_wp2_with fail
  go_loopw [5, 12] (fun _ i wr => ∃ k : Nat, k ≤ p.length ∧ i = .int .i64 k ∧ CM wr w.heap.size k (p.take k) ∧ (∀ j, j < k → uniqAt p j = true) ∧ Ex w wr) (fun _ i _ => p.length - (intOf i).toNat)
  case atStart => exact ⟨0, Nat.zero_le _, rfl, by rw [List.take_zero]; exact CM_made w, fun j hj => by omega, Ex.new _ _⟩
  case round =>
    obtain ⟨k, hk, rfl, hCk, hall, hx⟩ := hrel
    have CK : Hid _ := hCk
    have A : Hid (∀ j, j < k → uniqAt p j = true) := hall
    have E : Hid (Ex w wr) := hx
    clear hall hx hmm
    by_cases hlt : k < p.length
    · obtain ⟨b, o, rfl, hbs, _, hc⟩ := XA_at (X.out wr E.out) (by omega)
      have ck := hc k hlt
      have hsz := Z.out k hlt
      have TS : Hid (p.take (k + 1) = p.take k ++ [p.getD k ⟨#[]⟩]) := take_snoc hlt
      have U : Hid (uniqAt p k = true → ∀ j, j < k + 1 → uniqAt p j = true) := fun h => upto_succ A.out h
      have V : Hid (uniqAt p k = false → R = false) := fun h => R2.out.trans (uniqB_no hlt h)
      have UA : Hid (uniqAt p k = (wordB (p.getD k ⟨#[]⟩) && !hasB (p.take k) (p.getD k ⟨#[]⟩))) := rfl
      obtain ⟨s, hs⟩ : ∃ s, p.getD k ⟨#[]⟩ = s := ⟨_, rfl⟩
      rw [hs] at ck hsz TS UA
      clear hc hs
      have hrun := hCk.look hsz
      have hcl := cntN_le (p.take k) s
      rw [List.length_take] at hcl
      have HB : Hid (hasB (p.take k) s = decide (cntN (p.take k) s ≠ 0)) := cntN_has _ _
      have HN : Hid (cntN (p.take k ++ [s]) s = cntN (p.take k) s + 1) := by show _ = _; rw [cntN_snoc, if_pos (by simp)]
      obtain ⟨c, hce⟩ : ∃ c, cntN (p.take k) s = c := ⟨_, rfl⟩
      rw [hce] at hrun hcl HB HN
      have HV : Hid (Value.int .i64 ((c : Int) + 1) = Value.int .i64 ((cntN (p.take k) s : Int) + 1)) := by show _ = _; rw [hce]
      have hcb : c ≤ 999999 := by omega
      have hl2 : (p.take k).length < 1000000 := by rw [List.length_take]; omega
      have L2 : Hid _ := hl2
      have SZ : Hid _ := hsz
      clear hce hCk hcl hl2 hsz
      go_wp2_with (at_mapUpdate; refine wpList_count rfl _ _ _ rfl w.heap.size k (p.take k) s SZ.out rfl CK.out (by omega) L2.out rfl HV.out ?_)
      intro w1 hC1 hF1
      have hrun2 := hC1.look SZ.out
      rw [HN.out] at hrun2
      have e2 : ((c + 1 : Nat) : Int) = (c : Int) + 1 := by omega
      rw [e2] at hrun2
      have CN : Hid (CM w1 w.heap.size (k + 1) (p.take (k + 1))) := by
        show CM _ _ _ _
        rw [TS.out]; exact hC1
      have E1 : Hid (Ex w w1) := hF1.to_ex E.out (Nat.le_refl _)
      clear hC1 hF1 hrun CK e2
      by_cases h0 : c = 0
      · have g1 : decide ((1 : Int) < (c : Int) + 1) = false := decide_eq_false (by omega)
        have H0 : Hid (hasB (p.take k) s = false) := HB.out.trans (decide_eq_false (by omega))
        clear h0
        go_wp2_with fail
        refine (nameOk_any s _).mono ?_
        rintro e w2 ⟨rfl, hb2⟩
        cases hw : wordB s with
        | false =>
          have HR : Hid (R = false) := V.out (by rw [UA.out, hw]; rfl)
          go_wp2_with fail
          go_ret
          exact ⟨ret_b HR.out.symm, E1.out.trans hb2⟩
        | true =>
          have HU : Hid _ := U.out (by rw [UA.out, hw, H0.out]; rfl)
          have CE : Hid (CM w2 w.heap.size (k + 1) (p.take (k + 1))) := CN.out.ex hb2
          clear hw
          go_wp2_with fail
          go_roundw
          case rel => exact ⟨k + 1, by omega, by go_num, CE.out, HU.out, E1.out.trans hb2⟩
          case measure => simp [intOf]; omega
      · have g1 : decide ((1 : Int) < (c : Int) + 1) = true := decide_eq_true (by omega)
        have HR : Hid (R = false) := V.out (by rw [UA.out, HB.out, decide_eq_true h0]; simp)
        clear h0
        go_wp2_with fail
        go_ret
        exact ⟨ret_b HR.out.symm, E1.out⟩
    · have HR : Hid (R = true) := R2.out.trans (uniqB_yes fun i hi => A.out i (by omega))
      go_wp2_with fail
      go_ret
      exact ⟨ret_b HR.out.symm, E.out⟩

end Go.Proofs.YtgpdnoghlommeaaDoor
