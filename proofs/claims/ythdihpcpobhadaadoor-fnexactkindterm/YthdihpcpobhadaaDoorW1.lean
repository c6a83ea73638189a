/- Walks: whether a type is in form. -/
import Derived.Test.YthdihpcpobhadaaDoorProg

import Derived.Test.YthdihpcpobhadaaDoorBase

import Derived.Deep.RegionWith

namespace Go.Proofs.YthdihpcpobhadaaDoor

open Go.RowKit Go.Deep

set_option maxHeartbeats 400000 in
theorem typeFits_any : ∀ (r : Nat) (f : F) (a : Option Addr) (cap : Nat) (lo : Nat) (w : World), r ≤ 100 → TA w lo f a →
    Calls Tryd.prog 43 #[.agg #[.slice a (len f) cap], .int .i64 r] w fun e w' => e = .returned (.bool (fits r f)) ∧ Ex w w'
  | 0, f, a, cap, lo, w, hr, hT => by
    go_enter Tryd.func43, Tryd.ntmps43
    go_wp2_with fail
    go_ret
    exact ⟨rfl, Ex.new _ _⟩
  | r + 1, f, a, cap, lo, w, hr, hT => by
    by_cases h0 : len f = 0
    · have h0' : ((len f : Int) == 0) = true := by simp [h0]
      go_enter Tryd.func43, Tryd.ntmps43
      go_wp2_with fail
      go_ret
      exact ⟨by simp [fits, h0], Ex.new _ _⟩
    · have h0' : ((len f : Int) == 0) = false := by simp [h0]
      by_cases h2 : len f = 2
      · have h2' : ((len f : Int) == 2) = true := by simp [h2]
        obtain ⟨b, o, rfl, hlo, hbs, hk⟩ := TA_at hT (by omega)
        obtain ⟨a0, c0, hc0, ht0⟩ := hk 0 (by omega)
        obtain ⟨a1, c1, hc1, ht1⟩ := hk 1 (by omega)
        rw [Nat.add_zero] at hc0
        have I0 : Hid _ := typeFits_any r (kid f 0) a0 c0 lo
        have I1 : Hid _ := typeFits_any r (kid f 1) a1 c1 lo
        have T0 : Hid _ := ht0
        have T1 : Hid _ := ht1
        clear hk hT ht0 ht1
        go_enter Tryd.func43, Tryd.ntmps43
        go_wp2_with fail
        refine (I0.out _ (by omega) (TA_below T0.out (Ex.new _ _))).mono ?_
        rintro e w1 ⟨rfl, hb1⟩
        have hx1 : Ex w w1 := (Ex.new _ _).trans hb1
        have hc1' := hx1.at hc1
        have hbx : w1.cell? ⟨w.heap.size, 0, none⟩ = some (.slice (some ⟨b, o, none⟩) 2 cap) := Ex.at hb1 (by simp)
        cases hf0 : fits r (kid f 0)
        · go_wp2_with fail
          go_ret
          exact ⟨by simp [fits, h2, hf0], hx1⟩
        · go_wp2_with fail
          refine (I1.out _ (by omega) (TA_below T1.out hx1)).mono ?_
          rintro e w2 ⟨rfl, hb2⟩
          go_wp2_with fail
          go_ret
          exact ⟨by simp [fits, h2, hf0], hx1.trans hb2⟩
      · have h2' : ((len f : Int) == 2) = false := by simp; omega
        go_enter Tryd.func43, Tryd.ntmps43
        go_wp2_with fail
        go_ret
        exact ⟨by simp [fits, h0, h2], Ex.new _ _⟩

end Go.Proofs.YthdihpcpobhadaaDoor
