/- The specification's digits. -/
import Derived.Test.YtngheeeadekdmaaDoorT1

import Derived.Deep.RegionHeld3

namespace Go.Proofs.YtngheeeadekdmaaDoor

open Go.RowKit Go.Deep

attribute [local go_sem ↓] Go.wp_at_zero Go.wp_at_succ

theorem dec_small {u : Nat} (h : u < 10) : Lib.decDigits u = [UInt8.ofNat (48 + u)] := by rw [Lib.decDigits, dif_pos h]
theorem dec_great {u : Nat} (h : ¬ u < 10) : Lib.decDigits u = Lib.decDigits (u / 10) ++ [UInt8.ofNat (48 + u % 10)] := by rw [Lib.decDigits, dif_neg h]

theorem dec_len : ∀ (d u : Nat), u < 10 ^ (d + 1) → (Lib.decDigits u).length ≤ d + 1
  | 0, u, h => by rw [dec_small (by simpa using h)]; simp
  | d + 1, u, h => by
    by_cases h0 : u < 10
    · rw [dec_small h0]; simp
    · rw [dec_great h0]
      have := dec_len d (u / 10) (by rw [Nat.pow_succ] at h; omega)
      simp; omega

theorem one_at {u : Int} {w : World} {b : Nat} (hc : w.cell? ⟨b, 0, none⟩ = some (.int .u8 u)) (i : Nat) (hi : i < 1) : w.cell? ⟨b, 0 + i, none⟩ = some (.int .u8 ([u].getD i 0)) := by
  have : i = 0 := by omega
  subst this
  exact hc

theorem conv_one (u : Int) (w : World) (b : Nat) (hc : w.cell? ⟨b, 0, none⟩ = some (.int .u8 u)) :
    (convert 22 9 (.slice (some ⟨b, 0, none⟩) 1 1)).run Tryd.prog w = .ok (.string (strOfNums [u])) w :=
  run_convert_bytes_arg w 22 5 Tryd.underlying22 Tryd.underlying5 b 0 1 1 [u] rfl (one_at hc) 9 Tryd.underlying9

theorem cut_in {A B : Prop} (a : A) (b : A → B) : B := b a

theorem l6Dec_one (n : Int) (w : World) (h0 : 0 ≤ n) (hn : n < 10) :
    Calls Tryd.prog 28 #[.int .i64 n] w fun e w' => e = .returned (.string ⟨(Lib.decDigits n.toNat).toArray⟩) ∧ Ex w w' := by
  have d1 : decide (n < -9223372036854775807) = false := by simp; omega
  have d2 : decide (n < 0) = false := by simp; omega
  have d3 : decide (n < 10) = true := by simp; omega
  have HR : Hid (strOfNums [48 + n] = ⟨(Lib.decDigits n.toNat).toArray⟩) := by
    show _ = _
    rw [dec_small (by omega)]
    simp only [strOfNums, List.map_cons, List.map_nil]
    rw [show (48 + n).toNat = 48 + n.toNat by omega]
  have cv := conv_one (48 + n)
  go_enter Tryd.func28, Tryd.ntmps28
  go_wp2_with fail
  go_ret
  exact ⟨ret_s HR.out, Ex.new _ _⟩

set_option maxRecDepth 100000 in
set_option maxHeartbeats 4000000 in
theorem l6Dec_any : ∀ (d : Nat) (n : Int) (w : World), d ≤ 17 → 0 ≤ n → n.toNat < 10 ^ (d + 1) →
    Calls Tryd.prog 28 #[.int .i64 n] w fun e w' => e = .returned (.string ⟨(Lib.decDigits n.toNat).toArray⟩) ∧ Ex w w' := by
  intro d
  induction d with
  | zero =>
    intro n w hd h0 h1
    exact l6Dec_one n w h0 (by simp at h1; omega)
  | succ d ih =>
    intro n w hd h0 h1
    by_cases hn : n < 10
    · exact l6Dec_one n w h0 hn
    · have d1 : decide (n < -9223372036854775807) = false := by simp; omega
      have d2 : decide (n < 0) = false := by simp; omega
      have d3 : decide (n < 10) = false := by simp; omega
      have hp : n.toNat / 10 < 10 ^ (d + 1) := by rw [Nat.pow_succ] at h1; omega
      have hm : n < 9223372036854775807 := by
        have : 10 ^ (d + 1 + 1) ≤ 10 ^ 18 := Nat.pow_le_pow_right (by omega) (by omega)
        omega
      obtain ⟨q, hq⟩ : ∃ q, n / 10 = q := ⟨_, rfl⟩
      obtain ⟨m, hmm⟩ : ∃ m, n % 10 = m := ⟨_, rfl⟩
      have hq' : n.tdiv 10 = q := by rw [Int.tdiv_eq_ediv_of_nonneg h0]; exact hq
      have hm' : n.tmod 10 = m := by rw [Int.tmod_eq_emod_of_nonneg h0]; exact hmm
      have wq : IntKind.i64.wrap q = q := by rw [IntKind.wrap_i64]; omega
      have wm : IntKind.i64.wrap m = m := by rw [IntKind.wrap_i64]; omega
      have m0 : 0 ≤ m := by omega
      have m1 : m < 10 := by omega
      have w48 : IntKind.i64.wrap (48 + m) = 48 + m := by rw [IntKind.wrap_i64]; omega
      have w8 : IntKind.u8.wrap (48 + m) = 48 + m := by simp [IntKind.wrap, IntKind.bits, IntKind.signed]; omega
      obtain ⟨s, hs⟩ : ∃ s : ByteArray, s = ⟨(Lib.decDigits q.toNat).toArray⟩ := ⟨_, rfl⟩
      have I : Hid (∀ w', Calls Tryd.prog 28 #[.int .i64 q] w' fun e w'' => e = .returned (.string s) ∧ Ex w' w'') := fun w' => by
        rw [hs]; exact ih q w' (by omega) (by omega) (by omega)
      have hsl : s.size ≤ 100 := by
        rw [hs]; show (Lib.decDigits q.toNat).toArray.size ≤ _
        have := dec_len d q.toNat (by omega)
        simp; omega
      have HR : Hid (s ++ strOfNums [48 + m] = ⟨(Lib.decDigits n.toNat).toArray⟩) := by
        show _ = _
        rw [dec_great (u := n.toNat) (by omega), hs, show n.toNat / 10 = q.toNat by omega, show n.toNat % 10 = m.toNat by omega]
        simp only [strOfNums, List.map_cons, List.map_nil]
        rw [show (48 + m).toNat = 48 + m.toNat by omega]
        apply ByteArray.ext
        simp
      obtain ⟨t, ht⟩ : ∃ t, strOfNums [48 + m] = t := ⟨_, rfl⟩
      have cv := conv_one (48 + m)
      rw [ht] at cv HR
      have htl : t.size = 1 := by rw [← ht, strOfNums_size]; rfl
      have n1 : ¬ 9223372036854775807 < s.size + t.size := by omega
      clear h1 hs ih ht htl hsl hp hd
      go_enter Tryd.func28, Tryd.ntmps28
      go_wp2_with fail
      go_region_held (fun w' => Ex w w' ∧ True) ((refine ⟨?_, trivial⟩; first | exact (Ex.refl _).drew | exact And.left ‹Ex _ _ ∧ _› | exact Ex.alloc (And.left ‹Ex _ _ ∧ _›) _ | exact Ex.trans (And.left ‹Ex _ _ ∧ _›) ‹Ex _ _›)) (first | (go_at_call 28; refine (I.out _).mono ?_; rintro e w1 ⟨rfl, hb1⟩; refine cut_in (A := w1.cell? ⟨w.heap.size, 0, none⟩ = some (.int .u8 (48 + m))) ?_ (fun hc1 => ?_); focus (refine hb1.at ?_; simp; done)) | (go_at_call 28; refine (I.out _).mono ?_; rintro e w1 ⟨rfl, hb1⟩))
      all_goals go_wp2_with fail
      all_goals go_ret
      all_goals exact ⟨ret_s HR.out, And.left ‹Ex _ _ ∧ _›⟩
end Go.Proofs.YtngheeeadekdmaaDoor
