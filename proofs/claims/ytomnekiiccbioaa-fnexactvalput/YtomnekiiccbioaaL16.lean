/- The exact law on parts of values, walked. -/
import Derived.Test.YtomnekiiccbioaaE8
import Derived.Test.YtomnekiiccbioaaE3
import Derived.Test.YtomnekiiccbioaaV17
namespace Go.Proofs.Ytomnekiiccbioaa
open Go.RowKit Go.Deep
attribute [local go_sem ↓] Go.wp_at_zero Go.wp_at_succ

theorem FrS.to_ex {S : Nat → Prop} {w a b : World} (h : FrS S a b) (hx : Ex w a) (hS : ∀ k, S k → w.heap.size ≤ k) : Ex w b :=
  ⟨h.os.trans hx.os, h.tape.trans hx.tape, h.output.trans hx.output, Nat.le_trans hx.size h.size, fun k hk => (h.block k (Nat.lt_of_lt_of_le hk hx.size) fun hs => by have := hS k hs; omega).trans (hx.block k hk)⟩
theorem sz_pair {f : F} (h2 : len f = 2) : sz f = 2 + sz (kid f 0) + sz (kid f 1) := by
  have := off_len f
  rw [h2, off_succ f 1 (by omega), off_succ f 0 (by omega), off_zero] at this
  omega
theorem vType_sz : ∀ (r : Nat) (n : Int) (f u : F), vType r n f = some u → sz f + 2 ≤ 2 ^ (r + 1)
  | 0, n, f, u, h => by simp [vType] at h
  | r + 1, n, f, u, h => by
    have hp : 2 ^ (r + 1 + 1) = 2 ^ (r + 1) * 2 := Nat.pow_succ 2 (r + 1)
    have hq : 2 ≤ 2 ^ (r + 1) := by
      have : 2 ^ (r + 1) = 2 ^ r * 2 := Nat.pow_succ 2 r
      have := Nat.pow_pos (n := r) (show 0 < 2 by omega)
      omega
    obtain h0 | ⟨h2, hn, a, b, ha, hb⟩ := vType_some h
    · rw [sz_nil h0]; omega
    · have i0 := vType_sz r _ _ _ ha
      have i1 := vType_sz r _ _ _ hb
      rw [sz_pair h2]; omega

set_option maxRecDepth 100000 in
set_option maxHeartbeats 4000000 in
theorem lawExactValAt (n : Int) (f : F) (a : Option Addr) (c : Nat) (p : List Int) (pa : Option Addr) (pc : Nat) (w : World) (hl : len f ≤ 9223372036854775807) (hlm : Lm f) (hV : VA w 0 f a) (hpl : p.length ≤ 9223372036854775807) (hP : PA w 0 p pa) :
    Calls Try.prog 19 #[.agg #[.int .i64 n, .slice a (len f) c], .slice pa p.length pc] w fun e w' => e = .returned (.bool true) ∧ Ex w w' := by
  have V : Hid (∀ w', Ex w w' → VA w' 0 f a) := fun _ h => VA_below hV h
  have P : Hid (∀ w', Ex w w' → PA w' 0 p pa) := fun _ h => PA_below hP h
  clear hV hP
  by_cases hbig : 1048576 < p.length
  · have d1 : decide ((1048576 : Int) < (p.length : Int)) = true := by simp; omega
    go_enter Try.func19, Try.ntmps19
    go_wp2_with fail
    go_ret
    exact ⟨rfl, Ex.new _ _⟩
  have d1 : decide ((1048576 : Int) < (p.length : Int)) = false := by simp; omega
  have hp : p.length ≤ 1000000000 := by omega
  obtain ⟨W0, hW0⟩ : ∃ W0, W0 = w.alloc (.cells #[.int .i64 n, .slice a (len f) c] 64) := ⟨_, rfl⟩
  have X0 : Hid (Ex w W0) := hW0 ▸ Ex.new _ _
  have C0 : Hid (∀ w', Ex W0 w' → w'.cell? ⟨w.heap.size, 0, none⟩ = some (.int .i64 n) ∧ w'.cell? ⟨w.heap.size, 1, none⟩ = some (.slice a (len f) c)) := fun w' h => ⟨h.at (hW0 ▸ World.cell?_alloc_new _ _ _ _), h.at (hW0 ▸ World.cell?_alloc_new _ _ _ _)⟩
  have HW0 : Hid (w.alloc (.cells #[.int .i64 n, .slice a (len f) c] 64) = W0) := hW0.symm
  have z0 : w.heap.size < W0.heap.size := by rw [hW0, World.size_alloc]; omega
  clear hW0
  go_enter Try.func19, Try.ntmps19
  go_wp2_with fail
  rw [HW0.out]
  refine ((szValN_both (dep f + 1)).2 n f a c 0 1048576 _ (by omega) hl hlm (by omega) (by omega) (V.out _ X0.out)).mono ?_
  rintro e w1 ⟨x, rfl, hx0, hx1, hsm, hb1⟩
  by_cases hx : x < 0
  · go_wp2_with fail
    go_ret
    exact ⟨rfl, X0.out.trans hb1⟩
  have SF : Hid (len f ≤ 1048576 ∧ Sm f) := (hsm (by omega)).1
  have hszf : (sz f : Int) ≤ 1048576 := by have := (hsm (by omega)).2; omega
  have hlf : len f ≤ 1000000000 := by have := SF.out.1; omega
  have TV : Hid (∀ w', Ex W0 w' → Calls Try.prog 50 #[.agg #[.int .i64 n, .slice a (len f) c]] w' fun e w'' => ∃ a' c', e = .returned (.agg #[.int .i64 n, .slice a' (len f) c']) ∧ VO (dep f + 1) w'' (fun b => w'.heap.size ≤ b) f a' ∧ Ex w' w'') := fun w' h => (toValO_both (dep f + 1)).2 n f a c 0 w' (by omega) hlf SF.out.2 (V.out _ (X0.out.trans h))
  have TI : Hid (∀ w', Ex W0 w' → Calls Try.prog 44 #[.slice pa p.length pc] w' fun e w'' => e = .returned (.slice (some ⟨w'.heap.size, 0, none⟩) p.length p.length) ∧ IB w'' w'.heap.size p ∧ Ex w' w'') := fun w' h => toIntS_any p pa pc 0 w' hp (P.out _ (X0.out.trans h))
  have SA : Hid (∀ w' a' c' b' d', VA w' 0 f a' → PA w' 0 p b' → Calls Try.prog 36 #[.agg #[.int .i64 n, .slice a' (len f) c'], .slice b' p.length d'] w' (SPutPost (valAtR n f p) w')) := fun w' a' c' b' d' h h' => sValAt_any n f p a' c' b' d' 0 w' hp hlf SF.out.2 h h'
  have IA : Hid (∀ w' a' c' b' d', VA w' 0 f a' → PA w' 0 p b' → Calls Try.prog 34 #[.agg #[.int .i64 n, .slice a' (len f) c'], .slice b' p.length d'] w' (PutPost (valAtR n f p) w')) := fun w' a' c' b' d' h h' => iValAtO_any n f p a' c' b' d' 0 w' hp h h'
  have SR : Hid (len (valAtR n f p).1.2 ≤ 1000000000 ∧ Sm (valAtR n f p).1.2) := ⟨(valAt_sm n f p).1, (valAt_sm n f p).2.1⟩
  have ZR : Hid (sz (valAtR n f p).1.2 ≤ 30) := by
    obtain ⟨v, hv⟩ := valAt_type n f p
    have := vType_sz 4 _ _ _ hv
    show _ ≤ _
    omega
  obtain ⟨R, hR⟩ : ∃ R, R = valAtR n f p := ⟨_, rfl⟩
  rw [← hR] at SA IA SR ZR
  clear hR
  obtain ⟨⟨r1, r2⟩, ok⟩ := R
  simp only at SR ZR
  have EV : Hid (∀ w' a' c' a'' c'', VA w' 0 r2 a' → VA w' 0 r2 a'' → Calls Try.prog 51 #[.agg #[.int .i64 r1, .slice a' (len r2) c'], .agg #[.int .i64 r1, .slice a'' (len r2) c'']] w' fun e w'' => e = .returned (.bool true) ∧ Ex w' w'') := fun w' a' c' a'' c'' h h' => by
    have := (eqVal_both (dep r2 + 1)).2 r1 r1 r2 r2 a' a'' c' c'' 0 0 w' (by omega) SR.out.1 SR.out.2 h h'
    rw [eqV_refl] at this; simpa using this
  have EF : Hid (∀ w' a' c' a'' c'', VA w' 0 f a' → VA w' 0 f a'' → Calls Try.prog 51 #[.agg #[.int .i64 n, .slice a' (len f) c'], .agg #[.int .i64 n, .slice a'' (len f) c'']] w' fun e w'' => e = .returned (.bool true) ∧ Ex w' w'') := fun w' a' c' a'' c'' h h' => by
    have := (eqVal_both (dep f + 1)).2 n n f f a' a'' c' c'' 0 0 w' (by omega) hlf SF.out.2 h h'
    rw [eqV_refl] at this; simpa using this
  have hnok : (ok != ok) = false := by cases ok <;> rfl
  clear hsm hl hlm
  obtain ⟨q0, q1⟩ := C0.out w1 hb1
  go_wp2_with fail
  refine (TV.out w1 hb1).mono ?_
  rintro e wa ⟨aa, ka, rfl, hva, hba⟩
  have Ha : Ex W0 wa := hb1.trans hba
  have VAa : Hid (∀ w', Ex wa w' → VA w' 0 f aa) := fun _ h => VA_lo (VA_below (VS_mono hva.vs fun _ _ hb => hb) h) (Nat.zero_le _)
  clear hva q0 q1
  go_wp2_with fail
  refine (TI.out wa Ha).mono ?_
  rintro e wb ⟨rfl, hib, hbb⟩
  have Hb : Ex W0 wb := Ha.trans hbb
  have PAb : Hid (PA wb 0 p (some ⟨wa.heap.size, 0, none⟩)) := hib.pa (Nat.zero_le _)
  clear hib
  go_wp2_with fail
  refine Calls.mono (SA.out wb aa ka _ _ (VAa.out _ hbb) PAb.out) ?_
  rintro e w2 ⟨a2, c2, rfl, hv2, hb2⟩
  have H2 : Ex W0 w2 := Hb.trans hb2
  obtain ⟨W2, hW2⟩ : ∃ W2, W2 = w2.alloc (.cells #[.int .i64 r1, .slice a2 (len r2) c2] 39) := ⟨_, rfl⟩
  have N2 : Ex w2 W2 := hW2 ▸ Ex.new _ _
  have X2 : Hid (Ex W0 W2) := H2.trans N2
  have V2 : Hid (∀ w', Ex W2 w' → VA w' 0 r2 a2) := fun _ h => VA_lo (VA_below hv2 (N2.trans h)) (Nat.zero_le _)
  have C2 : Hid (∀ w', Ex W2 w' → w'.cell? ⟨w2.heap.size, 0, none⟩ = some (.int .i64 r1) ∧ w'.cell? ⟨w2.heap.size, 1, none⟩ = some (.slice a2 (len r2) c2)) := fun w' h => ⟨h.at (hW2 ▸ World.cell?_alloc_new _ _ _ _), h.at (hW2 ▸ World.cell?_alloc_new _ _ _ _)⟩
  have s2 : W2.heap.size = w2.heap.size + 1 := by rw [hW2, World.size_alloc]
  have SZ2 : Hid (W2.heap.size = w2.heap.size + 1) := s2
  obtain ⟨q0, q1⟩ := C0.out w2 H2
  have z2 : w.heap.size < w2.heap.size := World.block_lt_of_cell? _ _ q0
  clear hv2 N2 s2 H2 Hb Ha
  go_wp2_with fail
  rw [← hW2]
  clear hW2 q0 q1
  refine (TV.out W2 X2.out).mono ?_
  rintro e w3 ⟨a3, c3, rfl, hv3, hb3⟩
  obtain ⟨W3, hW3⟩ : ∃ W3, W3 = w3.alloc (.cells #[.int .i64 n, .slice a3 (len f) c3] 39) := ⟨_, rfl⟩
  have N3 : Ex w3 W3 := hW3 ▸ Ex.new _ _
  have X3 : Hid (Ex W2 W3) := hb3.trans N3
  have O3 : Hid (∀ w', Ex W3 w' → VO (dep f + 1) w' (fun b => W2.heap.size ≤ b ∧ b < w3.heap.size) f a3) := fun _ h => (hv3.mono (S' := fun b => W2.heap.size ≤ b ∧ b < w3.heap.size) fun b hb hs => ⟨hs, hb⟩).ex (N3.trans h)
  have C3 : Hid (∀ w', Ex W3 w' → w'.cell? ⟨w3.heap.size, 0, none⟩ = some (.int .i64 n) ∧ w'.cell? ⟨w3.heap.size, 1, none⟩ = some (.slice a3 (len f) c3)) := fun w' h => ⟨h.at (hW3 ▸ World.cell?_alloc_new _ _ _ _), h.at (hW3 ▸ World.cell?_alloc_new _ _ _ _)⟩
  have SZ3 : Hid (W3.heap.size = w3.heap.size + 1 ∧ W2.heap.size ≤ w3.heap.size) := ⟨by rw [hW3, World.size_alloc], hb3.size⟩
  obtain ⟨q0, q1⟩ := C0.out w3 (X2.out.trans hb3)
  have z3 : w.heap.size < w3.heap.size := World.block_lt_of_cell? _ _ q0
  clear hv3 N3
  go_wp2_with fail
  rw [← hW3]
  clear hW3 q0 q1
  refine (TI.out W3 (X2.out.trans X3.out)).mono ?_
  rintro e w4 ⟨rfl, hi4, hb4⟩
  have I4 : Hid (∀ w', Ex w4 w' → IB w' W3.heap.size p) := fun _ h => hi4.ex h
  have X4 : Hid (Ex W3 w4) := hb4
  have SZ4 : Hid (W3.heap.size < w4.heap.size) := hi4.lt
  obtain ⟨q2, q3⟩ := C3.out w4 hb4
  have z4 : w3.heap.size < w4.heap.size := World.block_lt_of_cell? _ _ q2
  clear hi4 hb4
  go_wp2_with fail
  refine Calls.mono (IA.out w4 a3 c3 _ _ (VA_lo (VS_mono (O3.out _ X4.out).vs fun _ _ hb => Nat.zero_le _) (Nat.le_refl _)) ((I4.out _ (Ex.refl _)).pa (Nat.zero_le _))) ?_
  rintro e w5 ⟨a5, c5, rfl, hv5, hb5⟩
  obtain ⟨W5, hW5⟩ : ∃ W5, W5 = w5.alloc (.cells #[.int .i64 r1, .slice a5 (len r2) c5] 39) := ⟨_, rfl⟩
  have N5 : Ex w5 W5 := hW5 ▸ Ex.new _ _
  have X5 : Hid (Ex w4 W5) := hb5.trans N5
  have O5 : Hid (VO 8 W5 (fun b => w4.heap.size ≤ b ∧ b < w5.heap.size) r2 a5) := (hv5.mono (S' := fun b => w4.heap.size ≤ b ∧ b < w5.heap.size) fun b hb hs => ⟨hs, hb⟩).ex N5
  have C5 : Hid (W5.cell? ⟨w5.heap.size, 0, none⟩ = some (.int .i64 r1) ∧ W5.cell? ⟨w5.heap.size, 1, none⟩ = some (.slice a5 (len r2) c5)) := ⟨hW5 ▸ World.cell?_alloc_new _ _ _ _, hW5 ▸ World.cell?_alloc_new _ _ _ _⟩
  have SZ5 : Hid (W5.heap.size = w5.heap.size + 1 ∧ w4.heap.size ≤ w5.heap.size) := ⟨by rw [hW5, World.size_alloc], hb5.size⟩
  have E2 : Hid (Ex W2 W5) := X3.out.trans (X4.out.trans X5.out)
  obtain ⟨q4, q5⟩ := C2.out w5 (X3.out.trans (X4.out.trans hb5))
  have z5 : w2.heap.size < w5.heap.size := World.block_lt_of_cell? _ _ q4
  clear hv5 N5 q2 q3
  go_wp2_with fail
  rw [← hW5]
  clear hW5 q4 q5
  refine (EV.out W5 a5 c5 a2 c2 (VA_lo (VS_mono O5.out.vs fun _ _ hb => Nat.zero_le _) (Nat.le_refl _)) (V2.out _ E2.out)).mono ?_
  rintro e w6 ⟨rfl, hb6⟩
  have X6 : Hid (Ex W5 w6) := hb6
  have K3 : Hid (∀ w', Ex W5 w' → Ex W3 w') := fun w' h => X4.out.trans (X5.out.trans h)
  have K0 : Hid (∀ w', Ex W5 w' → Ex W0 w') := fun w' h => X2.out.trans (X3.out.trans (K3.out _ h))
  have KS : Hid (∀ w', Ex W5 w' → (Ex W5 w' ∧ w'.cell? ⟨w.heap.size, 0, none⟩ = some (.int .i64 n) ∧ w'.cell? ⟨w.heap.size, 1, none⟩ = some (.slice a (len f) c) ∧ w'.cell? ⟨w3.heap.size, 0, none⟩ = some (.int .i64 n) ∧ w'.cell? ⟨w3.heap.size, 1, none⟩ = some (.slice a3 (len f) c3))) := fun w' h => ⟨h, (C0.out w' (K0.out _ h)).1, (C0.out w' (K0.out _ h)).2, (C3.out w' (K3.out _ h)).1, (C3.out w' (K3.out _ h)).2⟩
  clear hb6
  go_wp2_with fail
  go_region_held3 (fun w' => Ex W5 w' ∧ w'.cell? ⟨w.heap.size, 0, none⟩ = some (.int .i64 n) ∧ w'.cell? ⟨w.heap.size, 1, none⟩ = some (.slice a (len f) c) ∧ w'.cell? ⟨w3.heap.size, 0, none⟩ = some (.int .i64 n) ∧ w'.cell? ⟨w3.heap.size, 1, none⟩ = some (.slice a3 (len f) c3)) ((refine KS.out _ ?_; first | exact X6.out.drew | exact Ex.trans (And.left ‹Ex _ _ ∧ _›) ‹Ex _ _› | exact (And.left ‹Ex _ _ ∧ _›))) (first | (go_at_call 50; refine (TV.out _ (K0.out _ (And.left ‹Ex _ _ ∧ _›))).mono ?_; rintro e w7 ⟨a7, c7, rfl, hv7, hb7⟩) | (go_at_call 51; refine (EF.out _ a3 c3 a7 c7 (VA_lo (VS_mono (O3.out _ (K3.out _ (And.left ‹Ex _ _ ∧ _›))).vs fun _ _ hb => Nat.zero_le _) (Nat.le_refl _)) (VA_lo (VS_mono hv7.vs fun _ _ hb => Nat.zero_le _) (Nat.le_refl _))).mono ?_; rintro e w8 ⟨rfl, hb8⟩))
  have X8 : Hid (Ex W5 w8) := And.left ‹Ex W5 w8 ∧ _›
  go_wp2_with fail
  refine (TI.out w8 (K0.out _ X8.out)).mono ?_
  rintro e w9 ⟨rfl, hi9, hb9⟩
  have X9 : Hid (Ex W5 w9) := X8.out.trans hb9
  have PA9 : Hid (PA w9 0 p (some ⟨w8.heap.size, 0, none⟩)) := hi9.pa (Nat.zero_le _)
  clear hi9
  go_wp2_with fail
  refine (eqIntS_same p _ _ _ _ w9 hp ((I4.out _ (X5.out.trans X9.out)).pa (Nat.zero_le _)) PA9.out).mono ?_
  rintro e w10 ⟨rfl, hb10⟩
  have X10 : Hid (Ex W5 w10) := X9.out.trans hb10
  obtain ⟨q2, q3⟩ := C3.out w10 (K3.out _ X10.out)
  obtain ⟨cur, hc1, hc2, _⟩ := I4.out w10 (X5.out.trans X10.out)
  have HC1 : Hid _ := hc1
  clear hc1
  go_wp2_with fail
  refine Calls.mono (markVal_any (dep f + 1) n f a3 c3 (fun b => W2.heap.size ≤ b ∧ b < w3.heap.size) 1 w10 (O3.out _ (K3.out _ X10.out)) hlf (by omega) (by omega)) ?_
  rintro e w11 ⟨rfl, _, hF11⟩
  have he : (1 : Int) + (sz f : Int) = ((1 + sz f : Nat) : Int) := by push_cast; rfl
  rw [he]
  clear he q2 q3
  have E11 : Hid (Ex W2 w11) := hF11.to_ex (E2.out.trans X10.out) (fun k hk => hk.1)
  have F11 : Hid _ := hF11
  have i11 : w11.heap[W3.heap.size]? = some (.cells cur 3 (0, 0)) := (hF11.block _ (lt_of_block HC1.out) fun h => by have := SZ3.out.1; have := h.2; omega).trans HC1.out
  have I11 : Hid _ := i11
  obtain ⟨k1, hk1⟩ : ∃ k1, k1 = 1 + sz f := ⟨_, rfl⟩
  rw [← hk1]
  have hk1' : k1 ≤ 1000000000 := by omega
  clear i11 hF11 hk1
  go_wp2_with fail
  refine (markIntS_any p.length p.length W3.heap.size k1 cur w11 hp hk1' I11.out hc2).mono ?_
  rintro e w12 ⟨rfl, hF12⟩
  obtain ⟨k2, hk2⟩ : ∃ k2, k2 = k1 + p.length := ⟨_, rfl⟩
  rw [← hk2]
  have dk2 : decide ((k2 : Int) < 0) = false := by simp
  have E12 : Hid (Ex W2 w12) := hF12.to_ex E11.out (by have := SZ3.out; omega)
  have O12 : Hid (VO 8 w12 (fun b => w4.heap.size ≤ b ∧ b < w5.heap.size) r2 a5) := ((O5.out.ex X10.out).ks fun b hb hlt => F11.out.block b hlt fun h => by have := SZ4.out; have := SZ3.out; have := hb.1; have := h.2; omega).ks fun b hb hlt => hF12.block b hlt (by have := SZ4.out; have := hb.1; omega)
  have B12 : Hid (w12.cell? ⟨w5.heap.size, 0, none⟩ = some (.int .i64 r1) ∧ w12.cell? ⟨w5.heap.size, 1, none⟩ = some (.slice a5 (len r2) c5)) :=
    ⟨hF12.at (by show w5.heap.size ≠ _; have := SZ4.out; have := SZ5.out; omega) (F11.out.at (fun h => by have h' : w5.heap.size < w3.heap.size := h.2; have := SZ4.out; have := SZ5.out; have := SZ3.out; omega) (X10.out.at C5.out.1)), hF12.at (by show w5.heap.size ≠ _; have := SZ4.out; have := SZ5.out; omega) (F11.out.at (fun h => by have h' : w5.heap.size < w3.heap.size := h.2; have := SZ4.out; have := SZ5.out; have := SZ3.out; omega) (X10.out.at C5.out.2))⟩
  obtain ⟨q6, q7⟩ := B12.out
  obtain ⟨q8, q9⟩ := C2.out w12 E12.out
  clear hF12 hk2 hk1'
  go_wp2_with fail
  refine (EV.out w12 a5 c5 a2 c2 (VA_lo (VS_mono O12.out.vs fun _ _ hb => Nat.zero_le _) (Nat.le_refl _)) (V2.out _ E12.out)).mono ?_
  rintro e w13 ⟨rfl, hb13⟩
  have E13 : Hid (Ex W2 w13) := E12.out.trans hb13
  have q10 := hb13.at q6
  have q11 := hb13.at q7
  have hzr := ZR.out
  clear q6 q7 q8 q9
  go_wp2_with fail
  refine Calls.mono (markVal_any 8 r1 r2 a5 c5 (fun b => w4.heap.size ≤ b ∧ b < w5.heap.size) 1 w13 (O12.out.ex hb13) SR.out.1 (by omega) (by omega)) ?_
  rintro e w14 ⟨rfl, hv14, hF14⟩
  have q12 := hF14.at (fun h => by have h' : w5.heap.size < w5.heap.size := h.2; omega) q10
  have q13 := hF14.at (fun h => by have h' : w5.heap.size < w5.heap.size := h.2; omega) q11
  have E14 : Hid (Ex W2 w14) := hF14.to_ex E13.out (fun k hk => by have := SZ3.out; have := SZ4.out; have := hk.1; omega)
  have V14 : Hid (∀ w', Ex w14 w' → VA w' 0 (mk 1 r2) a5) := fun _ h => VA_below (VS_mono hv14.vs fun _ _ hb => Nat.zero_le _) h
  have C14 : Hid (∀ w', Ex w14 w' → w'.cell? ⟨w5.heap.size, 0, none⟩ = some (.int .i64 r1) ∧ w'.cell? ⟨w5.heap.size, 1, none⟩ = some (.slice a5 (len r2) c5)) := fun _ h => ⟨h.at q12, h.at q13⟩
  obtain ⟨mm, hmm⟩ : ∃ mm, mm = (1 : Int) + (sz r2 : Int) := ⟨_, rfl⟩
  have HL : Hid (∀ w', Ex w14 w' → Calls Try.prog 53 #[.agg #[.int .i64 r1, .slice a5 (len r2) c5], .int .i64 1] w' fun e w'' => e = .returned (.int .i64 mm) ∧ Ex w' w'') := fun w' h => by
    have := heldVal_any r1 r2 a5 c5 0 1 w' SR.out.1 (by omega) (by omega) (V14.out _ h)
    rw [← hmm] at this; exact this
  rw [← hmm]
  have dmm : decide (mm < 0) = false := by simp; omega
  have nmm : (mm != mm) = false := by simp
  clear hv14 hF14 q10 q11 hmm hzr
  go_wp2_with fail
  refine (HL.out w14 (Ex.refl _)).mono ?_
  rintro e w15 ⟨rfl, hb15⟩
  have E15 : Hid (Ex W0 w15) := X2.out.trans (E14.out.trans hb15)
  obtain ⟨q0, q1⟩ := C0.out w15 E15.out
  clear q12 q13
  go_wp2_with fail
  refine (TV.out w15 E15.out).mono ?_
  rintro e w16 ⟨a16, c16, rfl, hv16, hb16⟩
  have V16 : Hid (∀ w', Ex w16 w' → VA w' 0 f a16) := fun _ h => VA_below (VS_mono hv16.vs fun _ _ hb => Nat.zero_le _) h
  clear hv16 q0 q1
  go_wp2_with fail
  refine (TI.out w16 (E15.out.trans hb16)).mono ?_
  rintro e w17 ⟨rfl, hi17, hb17⟩
  have P17 : Hid (PA w17 0 p (some ⟨w16.heap.size, 0, none⟩)) := hi17.pa (Nat.zero_le _)
  clear hi17
  go_wp2_with fail
  refine Calls.mono (IA.out w17 a16 c16 _ _ (V16.out _ hb17) P17.out) ?_
  rintro e w18 ⟨a18, c18, rfl, hv18, hb18⟩
  have X18 : Hid (Ex w14 w18) := hb15.trans (hb16.trans (hb17.trans hb18))
  obtain ⟨q8, q9⟩ := C2.out w18 (E14.out.trans X18.out)
  have z18 : w2.heap.size < w18.heap.size := World.block_lt_of_cell? _ _ q8
  have V18 : Hid (VA (w18.alloc (.cells #[.int .i64 r1, .slice a18 (len r2) c18] 39)) 0 r2 a18) := VA_below (VS_mono hv18.vs fun _ _ hb => Nat.zero_le _) (Ex.new _ _)
  clear hv18
  go_wp2_with fail
  refine (EV.out _ a18 c18 a2 c2 V18.out (V2.out _ ((E14.out.trans X18.out).trans (Ex.new _ _)))).mono ?_
  rintro e w19 ⟨rfl, hb19⟩
  have X19 : Hid (Ex w14 w19) := X18.out.trans ((Ex.new _ _).trans hb19)
  obtain ⟨q10, q11⟩ := C14.out w19 X19.out
  clear q8 q9
  go_wp2_with fail
  refine (HL.out w19 X19.out).mono ?_
  rintro e w20 ⟨rfl, hb20⟩
  go_wp2_with fail
  go_ret
  exact ⟨rfl, X0.out.trans (X2.out.trans (E14.out.trans (X19.out.trans hb20)))⟩

end Go.Proofs.Ytomnekiiccbioaa
