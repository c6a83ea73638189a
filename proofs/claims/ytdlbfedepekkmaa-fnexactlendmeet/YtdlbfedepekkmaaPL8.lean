/- Walks: places gone through by the exact laws; the exact law on places that meet. -/
import Derived.Test.YtdlbfedepekkmaaPL4

import Derived.Test.YtdlbfedepekkmaaV7

namespace Go.Proofs.Ytdlbfedepekkmaa

open Go.RowKit Go.Deep

attribute [local go_sem ↓] Go.wp_at_zero Go.wp_at_succ

set_option maxHeartbeats 1000000 in
theorem szIntS_any (n c : Nat) (a : Option Addr) (l : Int) (w : World) (hn : n ≤ 9223372036854775807) (h0 : 0 ≤ l) (h1 : l ≤ 1048576) :
    Calls Try.prog 18 #[.slice a n c, .int .i64 l] w fun e w' => ∃ x : Int, e = .returned (.int .i64 x) ∧ -1 ≤ x ∧ x ≤ l ∧ (0 ≤ x → n ≤ 1048576) ∧ Ex w w' := by
  by_cases hb : l - n < 0
  · go_enter Try.func18, Try.ntmps18
    go_wp2_with fail
    go_ret
    exact ⟨-1, rfl, by omega, by omega, by omega, Ex.refl _⟩
  · go_enter Try.func18, Try.ntmps18
    go_wp2_with fail
    go_ret
    exact ⟨l - n, rfl, by omega, by omega, by omega, Ex.refl _⟩

set_option maxHeartbeats 1000000 in
theorem szPlace_any (s : ByteArray) (n c : Nat) (a : Option Addr) (l : Int) (w : World) (hs : s.size ≤ 9223372036854775807) (hn : n ≤ 9223372036854775807) (h0 : 0 ≤ l) (h1 : l ≤ 1048576) :
    Calls Try.prog 8 #[.agg #[.string s, .slice a n c], .int .i64 l] w fun e w' => ∃ x : Int, e = .returned (.int .i64 x) ∧ -1 ≤ x ∧ x ≤ l ∧ (0 ≤ x → n ≤ 1048576) ∧ Ex w w' := by
  by_cases hb : l - s.size < 0
  · go_enter Try.func8, Try.ntmps8
    go_wp2_with fail
    go_ret
    exact ⟨-1, rfl, by omega, by omega, by omega, Ex.new _ _⟩
  · obtain ⟨m, hm⟩ : ∃ m : Int, m = l - s.size := ⟨_, rfl⟩
    have h2 : m ≤ l := by omega
    go_enter Try.func8, Try.ntmps8
    go_wp2_with fail
    rw [← hm]
    refine (szIntS_any n c a m _ hn (by omega) (by omega)).mono ?_
    rintro e w1 ⟨x, rfl, hx0, hx1, hx2, hb1⟩
    have X : Hid (Ex w w1) := (Ex.new _ _).trans hb1
    have H2 : Hid (0 ≤ x → n ≤ 1048576) := hx2
    clear hb1 hx2 hm hb
    by_cases hx : x < 0
    · go_wp2_with fail
      go_ret
      exact ⟨-1, rfl, by omega, by omega, by omega, X.out⟩
    · go_wp2_with fail
      go_ret
      exact ⟨x, rfl, by omega, by omega, H2.out, X.out⟩

set_option maxRecDepth 100000 in
set_option maxHeartbeats 1000000 in
theorem toPlace_any (s : ByteArray) (p : List Int) (a : Option Addr) (c : Nat) (w : World) (hl : p.length ≤ 1000000000) (hP : PA w 0 p a) :
    Calls Try.prog 9 #[.agg #[.string s, .slice a p.length c]] w fun e w' => ∃ a', e = .returned (.agg #[.string s, .slice a' p.length p.length]) ∧ PA w' 0 p a' ∧ Ex w w' := by
  have P : Hid (∀ w', Ex w w' → PA w' 0 p a) := fun _ h => PA_below hP h
  clear hP
  go_enter Try.func9, Try.ntmps9
  go_wp2_with fail
  have hw3 := toIntS_any p a c 0 (((w.alloc (.cells #[.string s, .slice a p.length c] 30)).alloc (.cells #[.string ⟨#[]⟩, .slice none 0 0] 25)).alloc (.cells #[.string s, .slice none 0 0] 25)) hl (P.out _ (((Ex.new _ _).alloc _).alloc _))
  refine hw3.mono ?_
  clear hw3
  rintro e w1 ⟨rfl, hi1, hb1⟩
  have hx1 : Ex w w1 := (((Ex.new _ _).alloc _).alloc _).trans hb1
  have b1 : w1.heap[w.heap.size + 1]? = some (.cells #[.string ⟨#[]⟩, .slice none 0 0] 25 (0, 0)) := hb1.blk ((Ex.new _ _).blk (heap_alloc_at _ _ (by simp)))
  have b2 : w1.heap[w.heap.size + 2]? = some (.cells #[.string s, .slice none 0 0] 25 (0, 0)) := hb1.blk (heap_alloc_at _ _ (by simp))
  obtain ⟨B, hB⟩ : ∃ B, B = (((w.alloc (.cells #[.string s, .slice a p.length c] 30)).alloc (.cells #[.string ⟨#[]⟩, .slice none 0 0] 25)).alloc (.cells #[.string s, .slice none 0 0] 25)).heap.size := ⟨_, rfl⟩
  rw [← hB] at hi1 ⊢
  have zB : B = w.heap.size + 3 := by rw [hB]; simp
  have I1 : Hid (IB w1 B p) := hi1
  have X1 : Hid (Ex w w1) := hx1
  have ZB : Hid (B = w.heap.size + 3) := zB
  clear hB hi1 hb1 hx1 zB
  have c1 := two_cell0 b1
  have c2 := two_cell1 b1
  have c3 := two_free (i := 0) b1
  have c4 := two_free (i := 1) b1
  have e1 := two_cell0 b2
  have e2 := two_cell1 b2
  have e3 := two_free (i := 1) b2
  have B1 : Hid _ := b1
  have B2 : Hid _ := b2
  clear b1 b2
  go_wp2_with fail
  have Q1 : Hid _ := (Below.heap_setCell w1 ⟨w.heap.size + 1 + 1, 1, none⟩ (.slice (some ⟨B, 0, none⟩) p.length p.length) (w.heap.size + 1) (by show w.heap.size + 1 ≠ w.heap.size + 1 + 1; omega)).trans B1.out
  have Q2 := two_set (u' := .string s) (v' := .slice (some ⟨B, 0, none⟩) p.length p.length) Q1.out
  have r0 := two_cell0 Q2
  have r1 := two_cell1 Q2
  refine bodyPost_ret (v := .agg #[.string s, .slice (some ⟨B, 0, none⟩) p.length p.length]) (by simp [results, Try.results9, go_sem, r0, r1]) rfl ⟨_, rfl, ?_, ((X1.out.set ?_ _).set ?_ _).set ?_ _⟩
  · have k1 : Kp B w1 (((w1.setCell ⟨w.heap.size + 1 + 1, 1, none⟩ (.slice (some ⟨B, 0, none⟩) p.length p.length)).setCell ⟨w.heap.size + 1, 0, none⟩ (.string s)).setCell ⟨w.heap.size + 1, 1, none⟩ (.slice (some ⟨B, 0, none⟩) p.length p.length)) := by
      have := ZB.out
      exact (((Kp.refl _ _).set (Or.inl (by show w.heap.size + 1 + 1 < B; omega)) _).set (Or.inl (by show w.heap.size + 1 < B; omega)) _).set (Or.inl (by show w.heap.size + 1 < B; omega)) _
    exact PA_lo (PA_kp (I1.out.pa (Nat.le_refl B)) k1) (Nat.zero_le _)
  · show w.heap.size ≤ w.heap.size + 1 + 1; omega
  · show w.heap.size ≤ w.heap.size + 1; omega
  · show w.heap.size ≤ w.heap.size + 1; omega

set_option maxRecDepth 100000 in
set_option maxHeartbeats 1000000 in
theorem eqPlace_same (s : ByteArray) (p : List Int) (a a' : Option Addr) (c c' : Nat) (w : World) (hl : p.length ≤ 1000000000) (hP : PA w 0 p a) (hP' : PA w 0 p a') :
    Calls Try.prog 10 #[.agg #[.string s, .slice a p.length c], .agg #[.string s, .slice a' p.length c']] w fun e w' => e = .returned (.bool true) ∧ Ex w w' := by
  have P : Hid (∀ w', Ex w w' → PA w' 0 p a) := fun _ h => PA_below hP h
  have P' : Hid (∀ w', Ex w w' → PA w' 0 p a') := fun _ h => PA_below hP' h
  clear hP hP'
  go_enter Try.func10, Try.ntmps10
  go_wp2_with fail
  refine (eqIntS_same p a a' c c' _ hl (P.out _ ((Ex.new _ _).alloc _)) (P'.out _ ((Ex.new _ _).alloc _))).mono ?_
  rintro e w1 ⟨rfl, hb1⟩
  have X1 : Hid (Ex w w1) := ((Ex.new _ _).alloc _).trans hb1
  clear hb1
  go_wp2_with fail
  go_ret
  exact ⟨rfl, X1.out⟩

set_option maxRecDepth 100000 in
set_option maxHeartbeats 4000000 in
theorem lawExactLendMeet (s t : ByteArray) (p q : List Int) (a a' : Option Addr) (c c' : Nat) (w : World) (hs : s.size ≤ 9223372036854775807) (ht : t.size ≤ 9223372036854775807) (hp : p.length ≤ 9223372036854775807) (hq : q.length ≤ 9223372036854775807) (hP : PA w 0 p a) (hQ : PA w 0 q a') :
    Calls Try.prog 4 #[.agg #[.string s, .slice a p.length c], .agg #[.string t, .slice a' q.length c']] w fun e w' => e = .returned (.bool true) ∧ Ex w w' := by
  have P : Hid (∀ w', Ex w w' → PA w' 0 p a) := fun _ h => PA_below hP h
  have Q : Hid (∀ w', Ex w w' → PA w' 0 q a') := fun _ h => PA_below hQ h
  clear hP hQ
  obtain ⟨W0, hW0⟩ : ∃ W0, W0 = (w.alloc (.cells #[.string s, .slice a p.length c] 30)).alloc (.cells #[.string t, .slice a' q.length c'] 30) := ⟨_, rfl⟩
  have N0 : Hid (Ex w W0) := hW0 ▸ (Ex.new _ _).alloc _
  have C0 : Hid (∀ w', Ex W0 w' → w'.cell? ⟨w.heap.size, 0, none⟩ = some (.string s) ∧ w'.cell? ⟨w.heap.size, 1, none⟩ = some (.slice a p.length c) ∧ w'.cell? ⟨w.heap.size + 1, 0, none⟩ = some (.string t) ∧ w'.cell? ⟨w.heap.size + 1, 1, none⟩ = some (.slice a' q.length c')) := fun w' h => ⟨h.at (hW0 ▸ by simp), h.at (hW0 ▸ by simp), h.at (hW0 ▸ by simp), h.at (hW0 ▸ by simp)⟩
  go_enter Try.func4, Try.ntmps4
  go_wp2_with fail
  rw [← hW0]
  clear hW0
  refine (szPlace_any s p.length c a 1048576 W0 hs hp (by omega) (by omega)).mono ?_
  rintro e w1 ⟨x, rfl, hx0, hx1, hx2, hb1⟩
  obtain ⟨q1, q2, q3, q4⟩ := C0.out w1 hb1
  by_cases hx : x < 0
  · go_wp2_with fail
    go_ret
    exact ⟨rfl, N0.out.trans hb1⟩
  have H2 : Hid (p.length ≤ 1048576) := hx2 (by omega)
  clear hx2
  go_wp2_with fail
  refine (szPlace_any t q.length c' a' x w1 ht hq (by omega) (by omega)).mono ?_
  rintro e w2 ⟨y, rfl, hy0, hy1, hy2, hb2⟩
  have hx2 := hb1.trans hb2
  clear q1 q2 q3 q4
  obtain ⟨q1, q2, q3, q4⟩ := C0.out w2 hx2
  by_cases hy : y < 0
  · go_wp2_with fail
    go_ret
    exact ⟨rfl, N0.out.trans hx2⟩
  have H3 : Hid (q.length ≤ 1048576) := hy2 (by omega)
  have X2 : Hid (Ex W0 w2) := hx2
  clear hy2 hb1 hb2 hx2 hs ht hp hq hx0 hx1 hx hy0 hy1
  have TA : Hid (∀ w', Ex W0 w' → Calls Try.prog 9 #[.agg #[.string s, .slice a p.length c]] w' fun e w'' => ∃ b, e = .returned (.agg #[.string s, .slice b p.length p.length]) ∧ PA w'' 0 p b ∧ Ex w' w'') := fun w' h => toPlace_any s p a c w' (by have := H2.out; omega) (P.out _ (N0.out.trans h))
  have TB : Hid (∀ w', Ex W0 w' → Calls Try.prog 9 #[.agg #[.string t, .slice a' q.length c']] w' fun e w'' => ∃ b, e = .returned (.agg #[.string t, .slice b q.length q.length]) ∧ PA w'' 0 q b ∧ Ex w' w'') := fun w' h => toPlace_any t q a' c' w' (by have := H3.out; omega) (Q.out _ (N0.out.trans h))
  have SM : Hid (∀ w' b b', PA w' 0 p b → PA w' 0 q b' → Calls Try.prog 7 #[.agg #[.string s, .slice b p.length p.length], .agg #[.string t, .slice b' q.length q.length]] w' fun e w'' => e = .returned (.bool (lendB s t p q)) ∧ Ex w' w'') := fun w' b b' h h' => sLendMeet_any s t p q b b' _ _ w' h h' (by have := H2.out; omega) (by have := H3.out; omega)
  have IM : Hid (∀ w' b b', PA w' 0 p b → PA w' 0 q b' → Calls Try.prog 6 #[.agg #[.string s, .slice b p.length p.length], .agg #[.string t, .slice b' q.length q.length]] w' fun e w'' => e = .returned (.bool (lendB s t p q)) ∧ Ex w' w'') := fun w' b b' h h' => iLendMeet_any s t p q b b' _ _ w' h h' (by have := H2.out; omega) (by have := H3.out; omega) (Nat.le_refl _) (Nat.le_refl _)
  have EA : Hid (∀ w' b b', PA w' 0 p b → PA w' 0 p b' → Calls Try.prog 10 #[.agg #[.string s, .slice b p.length p.length], .agg #[.string s, .slice b' p.length p.length]] w' fun e w'' => e = .returned (.bool true) ∧ Ex w' w'') := fun w' b b' h h' => eqPlace_same s p b b' _ _ w' (by have := H2.out; omega) h h'
  have EB : Hid (∀ w' b b', PA w' 0 q b → PA w' 0 q b' → Calls Try.prog 10 #[.agg #[.string t, .slice b q.length q.length], .agg #[.string t, .slice b' q.length q.length]] w' fun e w'' => e = .returned (.bool true) ∧ Ex w' w'') := fun w' b b' h h' => eqPlace_same t q b b' _ _ w' (by have := H3.out; omega) h h'
  generalize lendB s t p q = M at *
  have hne : (M != M) = false := by cases M <;> rfl
  have KS : Hid (∀ w', Ex W0 w' → (Ex W0 w' ∧ w'.cell? ⟨w.heap.size, 0, none⟩ = some (.string s) ∧ w'.cell? ⟨w.heap.size, 1, none⟩ = some (.slice a p.length c) ∧ w'.cell? ⟨w.heap.size + 1, 0, none⟩ = some (.string t) ∧ w'.cell? ⟨w.heap.size + 1, 1, none⟩ = some (.slice a' q.length c'))) := fun w' h => ⟨h, C0.out w' h⟩
  go_wp2_with fail
  go_region_held3 (fun w' => Ex W0 w' ∧ w'.cell? ⟨w.heap.size, 0, none⟩ = some (.string s) ∧ w'.cell? ⟨w.heap.size, 1, none⟩ = some (.slice a p.length c) ∧ w'.cell? ⟨w.heap.size + 1, 0, none⟩ = some (.string t) ∧ w'.cell? ⟨w.heap.size + 1, 1, none⟩ = some (.slice a' q.length c')) ((refine KS.out _ ?_; first | exact X2.out.drew | exact Ex.trans (And.left ‹Ex _ _ ∧ _›) ‹Ex _ _›)) (first | (go_at_call_of 9 (Value.slice a p.length c); refine (TA.out _ (And.left ‹Ex _ _ ∧ _›)).mono ?_; rintro e w3 ⟨b3, rfl, ht3, hb3⟩) | (go_at_call_of 9 (Value.slice a' q.length c'); refine (TB.out _ (And.left ‹Ex _ _ ∧ _›)).mono ?_; rintro e w4 ⟨b4, rfl, ht4, hb4⟩) | (go_at_call 7; refine (SM.out _ _ _ (PA_below ht3 hb4) ht4).mono ?_; rintro e w5 ⟨rfl, hb5⟩))
  go_wp2_with fail
  have X5 : Hid (Ex W0 w5) := And.left ‹Ex W0 w5 ∧ _›
  clear q1 q2 q3 q4 ht3 hb3 ht4 hb4 hb5
  refine (TA.out w5 X5.out).mono ?_
  rintro e w6 ⟨b6, rfl, ht6, hb6⟩
  have P6 : Hid (∀ w', Ex w6 w' → PA w' 0 p b6) := fun _ h => PA_below ht6 h
  have X6 : Hid (Ex W0 w6) := X5.out.trans hb6
  clear hb6 ht6
  obtain ⟨q1, q2, q3, q4⟩ := C0.out w6 X6.out
  have z6 : w.heap.size + 1 < w6.heap.size := World.block_lt_of_cell? _ _ q3
  go_wp2_with fail
  refine (TB.out _ (X6.out.alloc _)).mono ?_
  rintro e w7 ⟨b7, rfl, ht7, hb7⟩
  have C7 : Hid (∀ w', Ex w7 w' → w'.cell? ⟨w6.heap.size, 0, none⟩ = some (.string s) ∧ w'.cell? ⟨w6.heap.size, 1, none⟩ = some (.slice b6 p.length p.length)) := fun w' h => ⟨h.at (hb7.at (by simp)), h.at (hb7.at (by simp))⟩
  have X7 : Hid (Ex w6 w7) := (Ex.new _ _).trans hb7
  have P7 : Hid (∀ w', Ex w7 w' → PA w' 0 q b7) := fun _ h => PA_below ht7 h
  have z7 : w6.heap.size < w7.heap.size := by have := hb7.size; simp at this; omega
  clear hb7 ht7 q1 q2 q3 q4
  obtain ⟨W8, hW8⟩ : ∃ W8, W8 = w7.alloc (.cells #[.string t, .slice b7 q.length q.length] 25) := ⟨_, rfl⟩
  have X8 : Hid (Ex w7 W8) := hW8 ▸ Ex.new _ _
  have KB : Hid (∀ w', Ex W8 w' → (Ex W8 w' ∧ w'.cell? ⟨w.heap.size, 0, none⟩ = some (.string s) ∧ w'.cell? ⟨w.heap.size, 1, none⟩ = some (.slice a p.length c) ∧ w'.cell? ⟨w.heap.size + 1, 0, none⟩ = some (.string t) ∧ w'.cell? ⟨w.heap.size + 1, 1, none⟩ = some (.slice a' q.length c') ∧ w'.cell? ⟨w6.heap.size, 0, none⟩ = some (.string s) ∧ w'.cell? ⟨w6.heap.size, 1, none⟩ = some (.slice b6 p.length p.length) ∧ w'.cell? ⟨w7.heap.size, 0, none⟩ = some (.string t) ∧ w'.cell? ⟨w7.heap.size, 1, none⟩ = some (.slice b7 q.length q.length))) := fun w' h => ⟨h, (C0.out w' (X6.out.trans (X7.out.trans (X8.out.trans h)))).1, (C0.out w' (X6.out.trans (X7.out.trans (X8.out.trans h)))).2.1, (C0.out w' (X6.out.trans (X7.out.trans (X8.out.trans h)))).2.2.1, (C0.out w' (X6.out.trans (X7.out.trans (X8.out.trans h)))).2.2.2, (C7.out w' (X8.out.trans h)).1, (C7.out w' (X8.out.trans h)).2, h.at (hW8 ▸ by simp), h.at (hW8 ▸ by simp)⟩
  obtain ⟨q5, q6⟩ := C7.out w7 (Ex.refl _)
  go_wp2_with fail
  rw [← hW8]
  clear hW8 q5 q6
  refine (IM.out W8 _ _ (P6.out _ (X7.out.trans X8.out)) (P7.out _ X8.out)).mono ?_
  rintro e w9 ⟨rfl, hb9⟩
  have X9 : Hid (Ex W8 w9) := hb9
  clear hb9
  obtain ⟨_, q1, q2, q3, q4, q5, q6, q7, q8⟩ := KB.out w9 X9.out
  have K0 : Hid (∀ w', Ex W8 w' → Ex W0 w') := fun w' h => X6.out.trans (X7.out.trans (X8.out.trans h))
  go_wp2_with fail
  have K6 : Hid (∀ w', Ex W8 w' → PA w' 0 p b6 ∧ PA w' 0 q b7) := fun w' h => ⟨P6.out _ (X7.out.trans (X8.out.trans h)), P7.out _ (X8.out.trans h)⟩
  clear q1 q2 q3 q4 q5 q6 q7 q8
  go_region_held3 (fun w' => Ex W8 w' ∧ w'.cell? ⟨w.heap.size, 0, none⟩ = some (.string s) ∧ w'.cell? ⟨w.heap.size, 1, none⟩ = some (.slice a p.length c) ∧ w'.cell? ⟨w.heap.size + 1, 0, none⟩ = some (.string t) ∧ w'.cell? ⟨w.heap.size + 1, 1, none⟩ = some (.slice a' q.length c') ∧ w'.cell? ⟨w6.heap.size, 0, none⟩ = some (.string s) ∧ w'.cell? ⟨w6.heap.size, 1, none⟩ = some (.slice b6 p.length p.length) ∧ w'.cell? ⟨w7.heap.size, 0, none⟩ = some (.string t) ∧ w'.cell? ⟨w7.heap.size, 1, none⟩ = some (.slice b7 q.length q.length)) ((refine KB.out _ ?_; first | exact X9.out.drew | exact Ex.trans (And.left ‹Ex _ _ ∧ _›) ‹Ex _ _›)) (first | (go_at_call 9; refine (TA.out _ (K0.out _ (And.left ‹Ex _ _ ∧ _›))).mono ?_; rintro e w10 ⟨b10, rfl, ht10, hb10⟩) | (go_at_call 10; refine (EA.out _ _ _ (K6.out _ (And.left ‹Ex _ _ ∧ _›)).1 ht10).mono ?_; rintro e w11 ⟨rfl, hb11⟩))
  have X11 : Hid (Ex W8 w11) := And.left ‹Ex W8 w11 ∧ _›
  clear ht10 hb10 hb11
  go_wp2_with fail
  go_region_held3 (fun w' => Ex W8 w' ∧ w'.cell? ⟨w.heap.size, 0, none⟩ = some (.string s) ∧ w'.cell? ⟨w.heap.size, 1, none⟩ = some (.slice a p.length c) ∧ w'.cell? ⟨w.heap.size + 1, 0, none⟩ = some (.string t) ∧ w'.cell? ⟨w.heap.size + 1, 1, none⟩ = some (.slice a' q.length c') ∧ w'.cell? ⟨w6.heap.size, 0, none⟩ = some (.string s) ∧ w'.cell? ⟨w6.heap.size, 1, none⟩ = some (.slice b6 p.length p.length) ∧ w'.cell? ⟨w7.heap.size, 0, none⟩ = some (.string t) ∧ w'.cell? ⟨w7.heap.size, 1, none⟩ = some (.slice b7 q.length q.length)) ((refine KB.out _ ?_; first | exact X11.out.drew | exact Ex.trans (And.left ‹Ex _ _ ∧ _›) ‹Ex _ _›)) (first | (go_at_call 9; refine (TB.out _ (K0.out _ (And.left ‹Ex _ _ ∧ _›))).mono ?_; rintro e w12 ⟨b12, rfl, ht12, hb12⟩) | (go_at_call 10; refine (EB.out _ _ _ (K6.out _ (And.left ‹Ex _ _ ∧ _›)).2 ht12).mono ?_; rintro e w13 ⟨rfl, hb13⟩))
  have X13 : Hid (Ex W8 w13) := And.left ‹Ex W8 w13 ∧ _›
  clear ht12 hb12 hb13
  go_wp2_with fail
  go_ret
  exact ⟨rfl, N0.out.trans (K0.out _ X13.out)⟩
end Go.Proofs.Ytdlbfedepekkmaa
