/- The law on the text of a pair, walked. -/
import Derived.Test.YtngheeeadekdmaaDoorT3

import Derived.Test.YtngheeeadekdmaaDoorT5

namespace Go.Proofs.YtngheeeadekdmaaDoor

open Go.RowKit Go.Deep

attribute [local go_sem ↓] Go.wp_at_zero Go.wp_at_succ

theorem sayV_up : ∀ (r : Nat) (n : Int) (f : F), (vType r n f).isSome = true → sayV (r + 1) n f = sayV r n f
  | 0, n, f, h => by simp [vType] at h
  | r + 1, n, f, h => by
    by_cases h0 : len f = 0
    · rw [sayV, if_pos h0, sayV, if_pos h0]
    · obtain ⟨_, k0, k1⟩ := vSome_two h h0
      rw [sayV, if_neg h0, sayV_up r _ _ k0, sayV_up r _ _ k1]
      conv => rhs; rw [sayV, if_neg h0]

theorem textV_len (n : Int) (f : F) : (textV n f).size ≤ 1024 := by
  unfold textV
  split
  · have := sayV_len 4 n f (by assumption); omega
  · show (0 : Nat) ≤ _; omega

theorem textV_pair {m : Int} {g : F} (h : (textV m g).toList.isEmpty = false) (h' : (textV 0 (two m g 6 .nil)).toList.isEmpty = false) : textV 0 (two m g 6 .nil) = ⟨#[40]⟩ ++ textV m g ++ ⟨#[44, 54, 41]⟩ := by
  have hv : (vType 4 m g).isSome = true := by
    cases hx : (vType 4 m g).isSome with
    | true => rfl
    | false => rw [textV, hx] at h; simp at h
  have hw : (vType 4 0 (two m g 6 .nil)).isSome = true := by
    cases hx : (vType 4 0 (two m g 6 .nil)).isSome with
    | true => rfl
    | false => rw [textV, hx] at h'; simp at h'
  obtain ⟨_, k0, k1⟩ := vSome_two hw (by rw [len_two]; omega)
  have k0' : (vType 3 m g).isSome = true := k0
  rw [textV, if_pos hw, textV, if_pos hv, sayV_up 3 m g k0', sayV, if_neg (by rw [len_two]; omega)]
  have e6 : sayV 3 (num (two m g 6 .nil) 1) (kid (two m g 6 .nil) 1) = ⟨#[54]⟩ := by
    show sayV 3 6 .nil = _
    rw [sayV, if_pos (show len (.nil : F) = 0 from rfl), dec_small (by decide)]
    rfl
  rw [e6, num_two0, kid_two0]
  apply ByteArray.ext
  apply Array.ext'
  simp

set_option maxRecDepth 100000 in
set_option maxHeartbeats 4000000 in
theorem lawValTextPair (n cc : Nat) (ca : Option Addr) (w : World) (hn : n ≤ cc) (hc : cc ≤ 9223372036854775807) (hB : By w n ca) (ht : Tab w) :
    Calls Tryd.prog 3 #[.slice ca n cc] w fun e w' => e = .returned (.bool true) ∧ Ex w w' := by
  have B : Hid (By w n ca) := hB
  have HT : Hid (∀ w', Ex w w' → Tab w') := fun _ h => ht.ex h
  clear hB ht
  by_cases hbig : 1048576 < n
  · have d1 : decide ((1048576 : Int) < (n : Int)) = true := by simp; omega
    go_enter Tryd.func3, Tryd.ntmps3
    go_wp2_with fail
    go_ret
    exact ⟨rfl, Ex.refl _⟩
  have d1 : decide ((1048576 : Int) < (n : Int)) = false := by simp; omega
  go_enter Tryd.func3, Tryd.ntmps3
  go_wp2_with fail
  refine (DrawValText_any n cc ca w hn hc B.out).mono ?_
  rintro e w1 ⟨m, g, a, c, rfl, hv, hsm, hb1⟩
  have V : Hid (∀ w', Ex w1 w' → VA w' 0 g a) := fun _ h => VA_lo (VA_below hv h) (Nat.zero_le _)
  have SM : Hid (len g ≤ 1000000000 ∧ Sm g) := hsm
  have X1 : Hid (Ex w w1) := hb1
  obtain ⟨W1, hW1⟩ : ∃ W1, W1 = w1.alloc (.cells #[.int .i64 m, .slice a (len g) c] 25) := ⟨_, rfl⟩
  have N1 : Hid (Ex w1 W1) := hW1 ▸ Ex.new _ _
  have C1 : Hid (∀ w', Ex W1 w' → w'.cell? ⟨w1.heap.size, 0, none⟩ = some (.int .i64 m) ∧ w'.cell? ⟨w1.heap.size, 1, none⟩ = some (.slice a (len g) c)) := fun w' h => ⟨h.at (hW1 ▸ World.cell?_alloc_new _ _ _ _), h.at (hW1 ▸ World.cell?_alloc_new _ _ _ _)⟩
  have IT : Hid (∀ w', Ex W1 w' → Calls Tryd.prog 7 #[.agg #[.int .i64 m, .slice a (len g) c]] w' fun e w'' => e = .returned (.string (textV m g)) ∧ Ex w' w'') := fun w' h => iValText_any m g a c 0 w' (V.out _ (N1.out.trans h)) (HT.out _ (X1.out.trans (N1.out.trans h)))
  have ST : Hid (∀ w', Ex W1 w' → Calls Tryd.prog 8 #[.agg #[.int .i64 m, .slice a (len g) c]] w' fun e w'' => e = .returned (.string (textV m g)) ∧ Ex w' w'') := fun w' h => sValText_any m g a c 0 w' SM.out.1 SM.out.2 (V.out _ (N1.out.trans h))
  clear hv hsm hb1
  go_wp2_with fail
  rw [← hW1]
  clear hW1
  refine (IT.out W1 (Ex.refl _)).mono ?_
  rintro e w2 ⟨rfl, hb2⟩
  obtain ⟨q0, q1⟩ := C1.out w2 hb2
  go_wp2_with fail
  refine (ST.out w2 hb2).mono ?_
  rintro e w3 ⟨rfl, hb3⟩
  have H3 : Ex W1 w3 := hb2.trans hb3
  obtain ⟨q2, q3⟩ := C1.out w3 H3
  have PL : Hid ((textV m g).toList.isEmpty = false → (textV 0 (two m g 6 .nil)).toList.isEmpty = false → textV 0 (two m g 6 .nil) = ⟨#[40]⟩ ++ textV m g ++ ⟨#[44, 54, 41]⟩) := textV_pair
  have hsl := textV_len m g
  obtain ⟨s, hsd⟩ : ∃ s, textV m g = s := ⟨_, rfl⟩
  rw [hsd] at IT ST PL hsl
  rw [hsd]
  clear hsd
  by_cases hs : s.toList.isEmpty = true
  · go_wp2_with fail
    refine (ST.out w3 H3).mono ?_
    rintro e w4 ⟨rfl, hb4⟩
    go_wp2_with fail
    go_ret
    exact ⟨rfl, X1.out.trans (N1.out.trans (H3.trans hb4))⟩
  · have hs' : s.toList.isEmpty = false := by simpa using hs
    have HS : Hid (s.toList.isEmpty = false) := hs'
    clear hs
    obtain ⟨W3, hW3⟩ : ∃ W3, W3 = (w3.alloc (.cells #[.int .i64 m, .slice a (len g) c, .int .i64 6, .slice none 0 0] 25)).alloc (.cells #[.int .i64 0, .slice (some ⟨w3.heap.size, 0, none⟩) 2 2] 25) := ⟨_, rfl⟩
    have N3 : Hid (Ex w3 W3) := hW3 ▸ (Ex.new _ _).alloc _
    have C3 : Hid (∀ w', Ex W3 w' → w'.cell? ⟨w3.heap.size + 1, 0, none⟩ = some (.int .i64 0) ∧ w'.cell? ⟨w3.heap.size + 1, 1, none⟩ = some (.slice (some ⟨w3.heap.size, 0, none⟩) 2 2)) := fun w' h => ⟨h.at (hW3 ▸ by simp), h.at (hW3 ▸ by simp)⟩
    have V3 : Hid (∀ w', Ex W3 w' → VA w' 0 (two m g 6 .nil) (some ⟨w3.heap.size, 0, none⟩)) := fun w' h => VA_two (f := two m g 6 .nil) (g := w3.heap.size) (a0 := a) (a1 := none) (k0 := c) (k1 := 0) (len_two _ _ _ _) (Nat.zero_le _) (h.at (by rw [hW3, num_two0]; simp)) (h.at (by rw [hW3, kid_two0]; simp)) (h.at (by rw [hW3, num_two1]; simp)) (h.at (by rw [hW3, kid_two1]; simp [len])) (V.out _ (N1.out.trans (H3.trans (N3.out.trans h)))) (Or.inl rfl)
    have IP : Hid (∀ w', Ex W3 w' → Calls Tryd.prog 7 #[.agg #[.int .i64 0, .slice (some ⟨w3.heap.size, 0, none⟩) 2 2]] w' fun e w'' => e = .returned (.string (textV 0 (two m g 6 .nil))) ∧ Ex w' w'') := fun w' h => iValText_any 0 (two m g 6 .nil) (some ⟨w3.heap.size, 0, none⟩) 2 0 w' (V3.out _ h) (HT.out _ (X1.out.trans (N1.out.trans (H3.trans (N3.out.trans h)))))
    have SP : Hid (∀ w', Ex W3 w' → Calls Tryd.prog 8 #[.agg #[.int .i64 0, .slice (some ⟨w3.heap.size, 0, none⟩) 2 2]] w' fun e w'' => e = .returned (.string (textV 0 (two m g 6 .nil))) ∧ Ex w' w'') := fun w' h => sValText_any 0 (two m g 6 .nil) (some ⟨w3.heap.size, 0, none⟩) 2 0 w' (Sm_two (b := .nil) m 6 SM.out ⟨by simp [len], by simp [Sm]⟩).1 (Sm_two (b := .nil) m 6 SM.out ⟨by simp [len], by simp [Sm]⟩).2 (V3.out _ h)
    obtain ⟨x, hx⟩ : ∃ x, textV 0 (two m g 6 .nil) = x := ⟨_, rfl⟩
    rw [hx] at IP SP PL
    have XX : Hid (Ex w W3) := X1.out.trans (N1.out.trans (H3.trans N3.out))
    have n1 : ¬ 9223372036854775807 < 1 + s.size := by omega
    have n2 : ¬ 9223372036854775807 < 1 + s.size + 3 := by omega
    clear hx hb2 hb3
    go_wp2_with fail
    rw [← hW3]
    clear hW3
    refine (IP.out W3 (Ex.refl _)).mono ?_
    rintro e w4 ⟨rfl, hb4⟩
    obtain ⟨r0, r1⟩ := C3.out w4 hb4
    go_wp2_with fail
    refine (SP.out w4 hb4).mono ?_
    rintro e w5 ⟨rfl, hb5⟩
    have X5 : Hid (Ex w w5) := XX.out.trans (hb4.trans hb5)
    by_cases hx : x.toList.isEmpty = true
    · go_wp2_with fail
      go_ret
      exact ⟨rfl, X5.out⟩
    · have hx' : x.toList.isEmpty = false := by simpa using hx
      have E : x = ⟨#[40]⟩ ++ s ++ ⟨#[44, 54, 41]⟩ := PL.out HS.out hx'
      clear hx PL
      go_wp2_with fail
      all_goals go_ret
      all_goals exact ⟨rfl, X5.out⟩
end Go.Proofs.YtngheeeadekdmaaDoor
