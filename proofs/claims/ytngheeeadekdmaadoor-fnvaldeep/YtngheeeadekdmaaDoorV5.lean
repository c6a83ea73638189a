/- Walks: whether a value is of a type, by both: the same. -/
import Derived.Test.YtngheeeadekdmaaDoorV3

import Derived.Test.YtngheeeadekdmaaDoorV4

namespace Go.Proofs.YtngheeeadekdmaaDoor

open Go.RowKit Go.Deep

attribute [local go_sem ↓] Go.wp_at_zero Go.wp_at_succ

theorem vType_fits : ∀ (r : Nat) (n : Int) (f u : F), vType r n f = some u → fits r u = true
  | 0, n, f, u, h => by simp [vType] at h
  | r + 1, n, f, u, h => by
    by_cases h0 : len f = 0
    · rw [vType_num h0] at h
      split at h
      · cases h; exact fits_nil rfl
      · cases h
    · by_cases hb : len f = 2 ∧ n = 0
      · rw [vType_two hb.1 hb.2] at h
        cases ha : vType r (num f 0) (kid f 0) with
        | none => rw [ha] at h; cases h
        | some a =>
          cases hc : vType r (num f 1) (kid f 1) with
          | none => rw [ha, hc] at h; cases h
          | some b =>
            rw [ha, hc] at h
            cases h
            rw [fits_two rfl, kid_two0, kid_two1, vType_fits r _ _ _ ha, vType_fits r _ _ _ hc]; rfl
      · rw [vType_bad h0 hb] at h; cases h

/-- Of the type that is said of it. -/
def ofType (t : F) (o : Option F) : Bool := match o with | some u => eqT t u | none => false

theorem isOf_vType : ∀ (r d : Nat) (t : F) (n : Int) (f : F), fits r t = true → dep f < d → isOf d t n f = ofType t (vType r n f)
  | 0, d, t, n, f, h, _ => by simp [fits] at h
  | r + 1, 0, t, n, f, _, h => by omega
  | r + 1, d + 1, t, n, f, ht, hd => by
    by_cases h0 : len f = 0
    · rw [vType_num h0]
      by_cases h1 : len t = 0
      · by_cases hr : 0 ≤ n ∧ n ≤ 9999
        · rw [if_pos hr]
          have e : eqT t .nil = true := eqT_zero h1 rfl
          simp [isOf, h0, h1, hr, ofType, e]
        · rw [if_neg hr]
          simp [isOf, hr, ofType]
      · have e : eqT t .nil = false := eqT_len t .nil h1
        have : isOf (d + 1) t n f = false := by simp [isOf, h0, Ne.symm h1]
        rw [this]
        split <;> simp [ofType, e]
    · by_cases hb : len f = 2 ∧ n = 0
      · rw [vType_two hb.1 hb.2]
        by_cases h2 : len t = 2
        · rw [fits_two h2, Bool.and_eq_true] at ht
          have i0 := isOf_vType r d (kid t 0) (num f 0) (kid f 0) ht.1 (by have := dep_kid f 0 (by omega); omega)
          have i1 := isOf_vType r d (kid t 1) (num f 1) (kid f 1) ht.2 (by have := dep_kid f 1 (by omega); omega)
          have e : isOf (d + 1) t n f = (isOf d (kid t 0) (num f 0) (kid f 0) && isOf d (kid t 1) (num f 1) (kid f 1)) := by
            simp [isOf, hb.1, hb.2, h2, List.range_succ]
          rw [e, i0, i1]
          cases vType r (num f 0) (kid f 0) with
          | none => rfl
          | some a =>
            cases vType r (num f 1) (kid f 1) with
            | none => simp [ofType]
            | some b =>
              show (eqT (kid t 0) a && eqT (kid t 1) b) = eqT t (two 0 a 0 b)
              rw [eqT_two h2 (len_two 0 0 a b), kid_two0, kid_two1]
        · have : isOf (d + 1) t n f = false := by simp [isOf, hb.1, Ne.symm h2]
          rw [this]
          cases vType r (num f 0) (kid f 0) with
          | none => rfl
          | some a =>
            cases vType r (num f 1) (kid f 1) with
            | none => rfl
            | some b =>
              show false = eqT t (two 0 a 0 b)
              rw [eqT_len t _ (by rw [len_two]; exact h2)]
      · rw [vType_bad h0 hb]
        have : isOf (d + 1) t n f = false := by
          by_cases hl : len f = len t
          · have h2 : len f = 2 := by have := fits_len ht; omega
            have hn : n ≠ 0 := fun h => hb ⟨h2, h⟩
            simp [isOf, h0, hn]
          · simp [isOf, hl]
        rw [this]; rfl

/-- What both say. -/
def valOk (t : F) (n : Int) (f : F) : Bool := fits 4 t && ofType t (vType 4 n f)

set_option maxRecDepth 100000 in
set_option maxHeartbeats 2000000 in
theorem sValOk_any (t : F) (n : Int) (f : F) (a at' : Option Addr) (c ct lo lo' : Nat) (w : World) (hl : len f ≤ 1000000000) (hs : Sm f) (hV : VA w lo f a) (hT : TA w lo' t at') :
    Calls Tryd.prog 27 #[.agg #[.slice at' (len t) ct], .agg #[.int .i64 n, .slice a (len f) c]] w fun e w' => e = .returned (.bool (valOk t n f)) ∧ Ex w w' := by
  have IT : Hid (∀ w', Ex w w' → Calls Tryd.prog 30 #[.agg #[.slice at' (len t) ct]] w' fun e w'' => e = .returned (.bool (fits 4 t)) ∧ Ex w' w'') := fun w' h => sTypeOk_any t at' ct lo' w' (TA_below hT h)
  have IV : Hid (∀ w', Ex w w' → Calls Tryd.prog 31 #[.agg #[.slice at' (len t) ct], .agg #[.int .i64 n, .slice a (len f) c]] w' fun e w'' => e = .returned (.bool (isOf (dep f + 1) t n f)) ∧ Ex w' w'') := fun w' h => l1Val_any (dep f + 1) t n f a at' c ct lo lo' w' (by omega) hl hs (VA_below hV h) (TA_below hT h)
  have R : Hid (fits 4 t = true → isOf (dep f + 1) t n f = valOk t n f) := fun h => by rw [isOf_vType 4 _ t n f h (by omega), valOk, h]; rfl
  have R0 : Hid (fits 4 t = false → valOk t n f = false) := fun h => by rw [valOk, h]; rfl
  clear hV hT hl hs
  obtain ⟨z, hz⟩ : ∃ z, z = fits 4 t := ⟨_, rfl⟩
  rw [← hz] at IT R R0
  clear hz
  go_enter Tryd.func27, Tryd.ntmps27
  go_wp2_with fail
  refine (IT.out _ ((Ex.new _ _).alloc _)).mono ?_
  rintro e w1 ⟨rfl, hb1⟩
  have x1 : Ex w w1 := ((Ex.new _ _).alloc _).trans hb1
  have q0 : w1.cell? ⟨w.heap.size, 0, none⟩ = some (.slice at' (len t) ct) := hb1.at (by simp)
  have q1 : w1.cell? ⟨w.heap.size + 1, 0, none⟩ = some (.int .i64 n) := hb1.at (by simp)
  have q2 : w1.cell? ⟨w.heap.size + 1, 1, none⟩ = some (.slice a (len f) c) := hb1.at (by simp)
  cases z
  · go_wp2_with fail
    go_ret
    exact ⟨ret_b (R0.out (by trivial)).symm, x1⟩
  · go_wp2_with fail
    refine (IV.out _ x1).mono ?_
    rintro e w2 ⟨rfl, hb2⟩
    go_wp2_with fail
    go_ret
    exact ⟨ret_b (R.out (by trivial)), x1.trans hb2⟩

end Go.Proofs.YtngheeeadekdmaaDoor
