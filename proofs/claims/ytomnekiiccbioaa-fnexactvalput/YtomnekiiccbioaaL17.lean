/- The exact law on parts put into values, walked. -/
import Derived.Test.YtomnekiiccbioaaL16
import Derived.Test.YtomnekiiccbioaaM2
import Derived.Deep.CutRange
namespace Go.Proofs.Ytomnekiiccbioaa
open Go.RowKit Go.Deep
attribute [local go_sem ↓] Go.wp_at_zero Go.wp_at_succ

theorem put_sz (n : Int) (f : F) (p : List Int) (m : Int) (g : F) : sz (valPutR n f p m g).1.2 ≤ 30 := by
  cases h : putOk n f p m g with
  | false => simp [valPutR, h, sz]
  | true =>
    obtain ⟨u, v, hu, hv, hg⟩ := put_ok h
    have := vType_sz 4 _ _ _ (putV_type p 4 n f u v m g hu hv hg)
    simp only [valPutR, h, if_true]
    omega

set_option maxRecDepth 100000 in
set_option maxHeartbeats 8000000 in
theorem lawExactValPut (n : Int) (f : F) (a : Option Addr) (c : Nat) (p : List Int) (pa : Option Addr) (pc : Nat) (m : Int) (g : F) (ag : Option Addr) (cg : Nat) (w : World) (hl : len f ≤ 9223372036854775807) (hlm : Lm f) (hV : VA w 0 f a) (hpl : p.length ≤ 9223372036854775807) (hP : PA w 0 p pa) (hlg : len g ≤ 9223372036854775807) (hlmg : Lm g) (hG : VA w 0 g ag) :
    Calls Try.prog 20 #[.agg #[.int .i64 n, .slice a (len f) c], .slice pa p.length pc, .agg #[.int .i64 m, .slice ag (len g) cg]] w fun e w' => e = .returned (.bool true) ∧ Ex w w' := by
  have V : Hid (∀ w', Ex w w' → VA w' 0 f a) := fun _ h => VA_below hV h
  have G : Hid (∀ w', Ex w w' → VA w' 0 g ag) := fun _ h => VA_below hG h
  have P : Hid (∀ w', Ex w w' → PA w' 0 p pa) := fun _ h => PA_below hP h
  clear hV hP hG
  by_cases hbig : 1048576 < p.length
  · have d1 : decide ((1048576 : Int) < (p.length : Int)) = true := by simp; omega
    go_enter Try.func20, Try.ntmps20
    go_wp2_with fail
    go_ret
    exact ⟨rfl, (Ex.new _ _).alloc _⟩
  have d1 : decide ((1048576 : Int) < (p.length : Int)) = false := by simp; omega
  have hp : p.length ≤ 1000000000 := by omega
  obtain ⟨W0, hW0⟩ : ∃ W0, W0 = ((w.alloc (.cells #[.int .i64 n, .slice a (len f) c] 64)).alloc (.cells #[.int .i64 m, .slice ag (len g) cg] 64)) := ⟨_, rfl⟩
  have X0 : Hid (Ex w W0) := hW0 ▸ ((Ex.new _ _).alloc _)
  have C0 : Hid (∀ w', Ex W0 w' → (w'.cell? ⟨w.heap.size, 0, none⟩ = some (.int .i64 n) ∧ w'.cell? ⟨w.heap.size, 1, none⟩ = some (.slice a (len f) c)) ∧ w'.cell? ⟨w.heap.size + 1, 0, none⟩ = some (.int .i64 m) ∧ w'.cell? ⟨w.heap.size + 1, 1, none⟩ = some (.slice ag (len g) cg)) := fun w' h => ⟨⟨h.at (hW0 ▸ (by simp)), h.at (hW0 ▸ (by simp))⟩, h.at (hW0 ▸ (by simp)), h.at (hW0 ▸ (by simp))⟩
  have HW0 : Hid (((w.alloc (.cells #[.int .i64 n, .slice a (len f) c] 64)).alloc (.cells #[.int .i64 m, .slice ag (len g) cg] 64)) = W0) := hW0.symm
  clear hW0
  go_enter Try.func20, Try.ntmps20
  go_wp2_with fail
  rw [HW0.out]
  refine ((szValN_both (dep f + 1)).2 n f a c 0 1048576 _ (by omega) hl hlm (by omega) (by omega) (V.out _ X0.out)).mono ?_
  rintro e w1 ⟨x, rfl, hx0, hx1, hsm, hb1⟩
  by_cases hx : x < 0
  · go_wp2_with fail
    go_ret
    exact ⟨rfl, X0.out.trans hb1⟩
  have SF : Hid (len f ≤ 1048576 ∧ Sm f) := (hsm (by omega)).1
  have hszf : (sz f : Int) ≤ 1048576 := by have := (hsm (by omega)).2; omega
  have hlf : len f ≤ 1000000000 := by have := SF.out.1; omega
  obtain ⟨⟨q0, q1⟩, q2, q3⟩ := C0.out w1 hb1
  clear hsm hl hlm
  go_wp2_with fail
  refine ((szValN_both (dep g + 1)).2 m g ag cg 0 x _ (by omega) hlg hlmg (by omega) (by omega) (G.out _ (X0.out.trans hb1))).mono ?_
  rintro e w1' ⟨x', rfl, hx0', hx1', hsm, hb1'⟩
  by_cases hx' : x' < 0
  · go_wp2_with fail
    go_ret
    exact ⟨rfl, X0.out.trans (hb1.trans hb1')⟩
  have H1 : Hid (Ex W0 w1') := hb1.trans hb1'
  have SG : Hid (len g ≤ 1048576 ∧ Sm g) := (hsm (by omega)).1
  have hszg : (sz g : Int) ≤ 1048576 := by have := (hsm (by omega)).2; omega
  have hlg' : len g ≤ 1000000000 := by have := SG.out.1; omega
  clear hsm hlg hlmg q0 q1 q2 q3
  have TV : Hid (∀ w', Ex W0 w' → Calls Try.prog 50 #[.agg #[.int .i64 n, .slice a (len f) c]] w' fun e w'' => ∃ a' c', e = .returned (.agg #[.int .i64 n, .slice a' (len f) c']) ∧ VO (dep f + 1) w'' (fun b => w'.heap.size ≤ b) f a' ∧ Ex w' w'') := fun w' h => (toValO_both (dep f + 1)).2 n f a c 0 w' (by omega) hlf SF.out.2 (V.out _ (X0.out.trans h))
  have TG : Hid (∀ w', Ex W0 w' → Calls Try.prog 50 #[.agg #[.int .i64 m, .slice ag (len g) cg]] w' fun e w'' => ∃ a' c', e = .returned (.agg #[.int .i64 m, .slice a' (len g) c']) ∧ VO (dep g + 1) w'' (fun b => w'.heap.size ≤ b) g a' ∧ Ex w' w'') := fun w' h => (toValO_both (dep g + 1)).2 m g ag cg 0 w' (by omega) hlg' SG.out.2 (G.out _ (X0.out.trans h))
  have TI : Hid (∀ w', Ex W0 w' → Calls Try.prog 44 #[.slice pa p.length pc] w' fun e w'' => e = .returned (.slice (some ⟨w'.heap.size, 0, none⟩) p.length p.length) ∧ IB w'' w'.heap.size p ∧ Ex w' w'') := fun w' h => toIntS_any p pa pc 0 w' hp (P.out _ (X0.out.trans h))
  have SA : Hid (∀ w' a' c' b' d' e' k', p.length ≤ d' → d' ≤ 9223372036854775807 → VA w' 0 f a' → PA w' 0 p b' → VA w' 0 g e' → Calls Try.prog 39 #[.agg #[.int .i64 n, .slice a' (len f) c'], .slice b' p.length d', .agg #[.int .i64 m, .slice e' (len g) k']] w' (SPutPost (valPutR n f p m g) w')) := fun w' a' c' b' d' e' k' h1 h2 h h' h'' => sValPut_any n f p m g a' e' b' c' k' d' 0 0 w' hp h1 h2 hlf SF.out.2 hlg' SG.out.2 h h'' h'
  have IA : Hid (∀ w' a' c' b' d' e' k', p.length ≤ d' → d' ≤ 9223372036854775807 → VA w' 0 f a' → PA w' 0 p b' → VA w' 0 g e' → Calls Try.prog 40 #[.agg #[.int .i64 n, .slice a' (len f) c'], .slice b' p.length d', .agg #[.int .i64 m, .slice e' (len g) k']] w' (PutPost (valPutR n f p m g) w')) := fun w' a' c' b' d' e' k' h1 h2 h h' h'' => iValPut_any n f p m g a' e' b' c' k' d' 0 0 w' hp h1 h2 h h'' h'
  have SR : Hid (len (valPutR n f p m g).1.2 ≤ 1000000000 ∧ Sm (valPutR n f p m g).1.2) := put_sm n f p m g
  have ZR : Hid (sz (valPutR n f p m g).1.2 ≤ 30) := put_sz n f p m g
  obtain ⟨R, hR⟩ : ∃ R, R = valPutR n f p m g := ⟨_, rfl⟩
  rw [← hR] at SA IA SR ZR
  clear hR
  obtain ⟨⟨r1, r2⟩, ok⟩ := R
  simp only at SR ZR
  have EV : Hid (∀ w' a' c' a'' c'', VA w' 0 r2 a' → VA w' 0 r2 a'' → Calls Try.prog 51 #[.agg #[.int .i64 r1, .slice a' (len r2) c'], .agg #[.int .i64 r1, .slice a'' (len r2) c'']] w' fun e w'' => e = .returned (.bool true) ∧ Ex w' w'') := fun w' a' c' a'' c'' h h' => by
    have := (eqVal_both (dep r2 + 1)).2 r1 r1 r2 r2 a' a'' c' c'' 0 0 w' (by omega) SR.out.1 SR.out.2 h h'
    rw [eqV_refl] at this; simpa using this
  have EF : Hid (∀ w' a' c' a'' c'', VA w' 0 f a' → VA w' 0 f a'' → Calls Try.prog 51 #[.agg #[.int .i64 n, .slice a' (len f) c'], .agg #[.int .i64 n, .slice a'' (len f) c'']] w' fun e w'' => e = .returned (.bool true) ∧ Ex w' w'') := fun w' a' c' a'' c'' h h' => by
    have := (eqVal_both (dep f + 1)).2 n n f f a' a'' c' c'' 0 0 w' (by omega) hlf SF.out.2 h h'
    rw [eqV_refl] at this; simpa using this
  have EG : Hid (∀ w' a' c' a'' c'', VA w' 0 g a' → VA w' 0 g a'' → Calls Try.prog 51 #[.agg #[.int .i64 m, .slice a' (len g) c'], .agg #[.int .i64 m, .slice a'' (len g) c'']] w' fun e w'' => e = .returned (.bool true) ∧ Ex w' w'') := fun w' a' c' a'' c'' h h' => by
    have := (eqVal_both (dep g + 1)).2 m m g g a' a'' c' c'' 0 0 w' (by omega) hlg' SG.out.2 h h'
    rw [eqV_refl] at this; simpa using this
  have hnok : (ok != ok) = false := by cases ok <;> rfl
  have hpm : p.length ≤ 9223372036854775807 := by omega
  obtain ⟨⟨q0, q1⟩, q2, q3⟩ := C0.out w1' H1.out
  have y0 : w.heap.size < w1'.heap.size := World.block_lt_of_cell? _ _ q0
  have y1 : w.heap.size + 1 < w1'.heap.size := World.block_lt_of_cell? _ _ q2
  go_upto_region 10 with fail
  go_cut [8, 9] from 33 to 42 (fun p8 p9 wx => p9 = .bool ok ∧ ∃ b a' c', p8 = .pointer (some ⟨b, 0, none⟩) ∧ wx.cell? ⟨b, 0, none⟩ = some (.int .i64 r1) ∧ wx.cell? ⟨b, 1, none⟩ = some (.slice a' (len r2) c') ∧ Ex w1' wx ∧ VA wx 0 r2 a')
  case first =>
    go_region_with (first | (go_at_call_of 50 (Value.slice a (len f) c); refine (TV.out _ (H1.out.trans (by first | exact (Ex.refl _).drew | exact (Ex.refl _).drew.alloc _))).mono ?_; rintro e wA ⟨aA, cA, rfl, hvA, hbA⟩; have xA : Ex w1' wA := (by refine Ex.trans ?_ hbA; first | exact (Ex.refl _).drew | exact (Ex.refl _).drew.alloc _); have vA : Hid (∀ w', Ex wA w' → VA w' 0 f aA) := fun _ h => VA_below (VS_mono hvA.vs fun _ _ hb => Nat.zero_le _) h; have qA := xA.at q2; have qA' := xA.at q3; have zA : w.heap.size + 1 < wA.heap.size := World.block_lt_of_cell? _ _ qA; first | (have ob : wA.heap[w1'.heap.size]? = some (.cells #[.int .i64 0, .slice none 0 0] 39 (0, 0)) := hbA.blk (heap_alloc_at _ _ rfl)) | skip) | (go_at_call 44; refine (TI.out _ (H1.out.trans (by first | exact xA | exact xA.alloc _))).mono ?_; rintro e wB ⟨rfl, hiB, hbB⟩; have xB : Ex wA wB := (by refine Ex.trans ?_ hbB; first | exact Ex.refl _ | exact Ex.new _ _); (try rw [World.size_alloc] at hiB); have pB : Hid (∀ w', Ex wB w' → PA w' 0 p (some ⟨_, 0, none⟩)) := fun _ h => PA_below (hiB.pa (Nat.zero_le _)) h; have qB := xB.at qA; have qB' := xB.at qA'; have zB : w.heap.size + 1 < wB.heap.size := World.block_lt_of_cell? _ _ qB; first | (have ob2 := xB.blk ob) | (have ob2 : wB.heap[wA.heap.size]? = some (.cells #[.int .i64 0, .slice none 0 0] 39 (0, 0)) := hbB.blk (heap_alloc_at _ _ rfl)) | skip) | (go_at_call_of 50 (Value.slice ag (len g) cg); refine (TG.out _ (H1.out.trans (xA.trans (xB.trans (by first | exact Ex.refl _ | exact Ex.new _ _))))).mono ?_; rintro e wC ⟨aC, cC, rfl, hvC, hbC⟩; have xC : Ex wB wC := (by refine Ex.trans ?_ hbC; first | exact Ex.refl _ | exact Ex.new _ _); have vC : Hid (∀ w', Ex wC w' → VA w' 0 g aC) := fun _ h => VA_below (VS_mono hvC.vs fun _ _ hb => Nat.zero_le _) h; first | (have ob3 := xC.blk ob2) | (have ob3 : wC.heap[wB.heap.size]? = some (.cells #[.int .i64 0, .slice none 0 0] 39 (0, 0)) := hbC.blk (heap_alloc_at _ _ rfl)) | skip) | (go_at_call 39; refine Calls.mono (SA.out _ aA cA _ _ aC cC (Nat.le_refl _) hpm (vA.out _ (by first | exact xB.trans xC | exact (xB.trans xC).alloc _)) (pB.out _ (by first | exact xC | exact xC.alloc _)) (vC.out _ (by first | exact Ex.refl _ | exact Ex.new _ _))) ?_; rintro e wD ⟨aD, cD, rfl, hvD, hbD⟩; have xD : Ex wC wD := (by refine Ex.trans ?_ hbD; first | exact Ex.refl _ | exact Ex.new _ _); have vD : VA wD 0 r2 aD := VA_lo hvD (Nat.zero_le _); have vE : ∀ b u v, b < _ → VA ((wD.setCell ⟨b, 0, none⟩ u).setCell ⟨b, 1, none⟩ v) 0 r2 aD := fun b u v hb => VA_lo (VA_set (VA_set hvD hb _) hb _) (Nat.zero_le _); have xE : Ex w1' wD := xA.trans (xB.trans (xC.trans xD)); (first | (have ob4 := xD.blk ob3) | (have ob4 : wD.heap[wC.heap.size]? = some (.cells #[.int .i64 0, .slice none 0 0] 39 (0, 0)) := hbD.blk (heap_alloc_at _ _ rfl)) | skip); first | (have oc := two_cell0 ob4; have oc1 := two_cell1 ob4; have oz := two_free (i := 0) ob4; have oz1 := two_free (i := 1) ob4; have ozl := lt_of_block ob4) | skip))
    all_goals
      go_wp2_with fail
      go_meet
      first
        | exact ⟨rfl, _, aD, cD, rfl, two_cell0 (two_set ob4), two_cell1 (two_set ob4), Ex.set (Ex.set xE (by first | exact Nat.le_refl _ | exact xA.size | exact (xA.trans xB).size | exact (xA.trans (xB.trans xC)).size) _) (by first | exact Nat.le_refl _ | exact xA.size | exact (xA.trans xB).size | exact (xA.trans (xB.trans xC)).size) _, vE _ _ _ (by first | exact lt_of_block ob3 | (rw [World.size_alloc]; exact Nat.lt_succ_self _))⟩
        | exact ⟨rfl, wD.heap.size, aD, cD, rfl, World.cell?_alloc_new _ _ _ _, World.cell?_alloc_new _ _ _ _, xE.alloc _, VA_below vD (Ex.new _ _)⟩
  case rest =>
    rename World => W2
    obtain ⟨rfl, b2, a2, c2, rfl, k20, k21, xW2, hv2⟩ := hcut
    have X2 : Hid (Ex W0 W2) := H1.out.trans xW2
    have V2 : Hid (∀ w', Ex W2 w' → VA w' 0 r2 a2) := fun _ h => VA_below hv2 h
    have C2 : Hid (∀ w', Ex W2 w' → w'.cell? ⟨b2, 0, none⟩ = some (.int .i64 r1) ∧ w'.cell? ⟨b2, 1, none⟩ = some (.slice a2 (len r2) c2)) := fun w' h => ⟨h.at k20, h.at k21⟩
    have zb2 : b2 < W2.heap.size := World.block_lt_of_cell? _ _ k20
    clear hv2 q0 q1 q2 q3
    obtain ⟨⟨q0, q1⟩, q2, q3⟩ := C0.out W2 X2.out
    have y2 : w.heap.size + 1 < W2.heap.size := World.block_lt_of_cell? _ _ q2
    go_wp2_with fail
    refine (TV.out W2 X2.out).mono ?_
    rintro e w3 ⟨a3, c3, rfl, hv3, hb3⟩
    obtain ⟨W3, hW3⟩ : ∃ W3, W3 = w3.alloc (.cells #[.int .i64 n, .slice a3 (len f) c3] 39) := ⟨_, rfl⟩
    have N3 : Ex w3 W3 := hW3 ▸ Ex.new _ _
    have X3 : Hid (Ex W2 W3) := hb3.trans N3
    have O3 : Hid (∀ w', Ex W3 w' → VO (dep f + 1) w' (fun b => W2.heap.size ≤ b ∧ b < w3.heap.size) f a3) := fun _ h => (hv3.mono (S' := fun b => W2.heap.size ≤ b ∧ b < w3.heap.size) fun b hb hs => ⟨hs, hb⟩).ex (N3.trans h)
    have C3 : Hid (∀ w', Ex W3 w' → w'.cell? ⟨w3.heap.size, 0, none⟩ = some (.int .i64 n) ∧ w'.cell? ⟨w3.heap.size, 1, none⟩ = some (.slice a3 (len f) c3)) := fun w' h => ⟨h.at (hW3 ▸ World.cell?_alloc_new _ _ _ _), h.at (hW3 ▸ World.cell?_alloc_new _ _ _ _)⟩
    have SZ3 : Hid (W3.heap.size = w3.heap.size + 1 ∧ W2.heap.size ≤ w3.heap.size) := ⟨by rw [hW3, World.size_alloc], hb3.size⟩
    have y3 : w.heap.size + 1 < w3.heap.size := by have := hb3.size; omega
    clear hv3 N3 q0 q1 q2 q3
    obtain ⟨⟨q0, q1⟩, q2, q3⟩ := C0.out w3 (X2.out.trans hb3)
    go_wp2_with fail
    rw [← hW3]
    clear hW3 q0 q1 q2 q3
    refine (TI.out W3 (X2.out.trans X3.out)).mono ?_
    rintro e w4 ⟨rfl, hi4, hb4⟩
    have I4 : Hid (∀ w', Ex w4 w' → IB w' W3.heap.size p) := fun _ h => hi4.ex h
    have X4 : Hid (Ex W3 w4) := hb4
    have SZ4 : Hid (W3.heap.size < w4.heap.size) := hi4.lt
    obtain ⟨⟨q0, q1⟩, q2, q3⟩ := C0.out w4 (X2.out.trans (X3.out.trans hb4))
    have y4 : w.heap.size + 1 < w4.heap.size := World.block_lt_of_cell? _ _ q2
    clear hi4 hb4
    go_wp2_with fail
    refine (TG.out w4 (X2.out.trans (X3.out.trans X4.out))).mono ?_
    rintro e wg ⟨bg, dg, rfl, hvg, hbg⟩
    obtain ⟨Wg, hWg⟩ : ∃ Wg, Wg = wg.alloc (.cells #[.int .i64 m, .slice bg (len g) dg] 39) := ⟨_, rfl⟩
    have Ng : Ex wg Wg := hWg ▸ Ex.new _ _
    have Xg : Hid (Ex w4 Wg) := hbg.trans Ng
    have Og : Hid (∀ w', Ex Wg w' → VO (dep g + 1) w' (fun b => w4.heap.size ≤ b ∧ b < wg.heap.size) g bg) := fun _ h => (hvg.mono (S' := fun b => w4.heap.size ≤ b ∧ b < wg.heap.size) fun b hb hs => ⟨hs, hb⟩).ex (Ng.trans h)
    have Cg : Hid (∀ w', Ex Wg w' → w'.cell? ⟨wg.heap.size, 0, none⟩ = some (.int .i64 m) ∧ w'.cell? ⟨wg.heap.size, 1, none⟩ = some (.slice bg (len g) dg)) := fun w' h => ⟨h.at (hWg ▸ World.cell?_alloc_new _ _ _ _), h.at (hWg ▸ World.cell?_alloc_new _ _ _ _)⟩
    have SZg : Hid (Wg.heap.size = wg.heap.size + 1 ∧ w4.heap.size ≤ wg.heap.size) := ⟨by rw [hWg, World.size_alloc], hbg.size⟩
    clear q0 q1 q2 q3
    obtain ⟨q4, q5⟩ := C3.out wg (X4.out.trans hbg)
    have yg : w3.heap.size < wg.heap.size := World.block_lt_of_cell? _ _ q4
    clear hvg Ng
    go_wp2_with fail
    rw [← hWg]
    clear hWg q4 q5
    refine Calls.mono (IA.out Wg a3 c3 _ _ bg dg (Nat.le_refl _) hpm (VS_mono (O3.out _ (X4.out.trans Xg.out)).vs fun _ _ hb => Nat.zero_le _) ((I4.out _ Xg.out).pa (Nat.zero_le _)) (VS_mono (Og.out _ (Ex.refl _)).vs fun _ _ hb => Nat.zero_le _)) ?_
    rintro e w5 ⟨a5, c5, rfl, hv5, hb5⟩
    obtain ⟨W5, hW5⟩ : ∃ W5, W5 = w5.alloc (.cells #[.int .i64 r1, .slice a5 (len r2) c5] 39) := ⟨_, rfl⟩
    have N5 : Ex w5 W5 := hW5 ▸ Ex.new _ _
    have X5 : Hid (Ex Wg W5) := hb5.trans N5
    have O5 : Hid (VO 8 W5 (fun b => Wg.heap.size ≤ b ∧ b < w5.heap.size) r2 a5) := (hv5.mono (S' := fun b => Wg.heap.size ≤ b ∧ b < w5.heap.size) fun b hb hs => ⟨hs, hb⟩).ex N5
    have C5 : Hid (W5.cell? ⟨w5.heap.size, 0, none⟩ = some (.int .i64 r1) ∧ W5.cell? ⟨w5.heap.size, 1, none⟩ = some (.slice a5 (len r2) c5)) := ⟨hW5 ▸ World.cell?_alloc_new _ _ _ _, hW5 ▸ World.cell?_alloc_new _ _ _ _⟩
    have SZ5 : Hid (W5.heap.size = w5.heap.size + 1 ∧ Wg.heap.size ≤ w5.heap.size) := ⟨by rw [hW5, World.size_alloc], hb5.size⟩
    have E2 : Hid (Ex W2 W5) := X3.out.trans (X4.out.trans (Xg.out.trans X5.out))
    obtain ⟨q4, q5⟩ := C2.out w5 (X3.out.trans (X4.out.trans (Xg.out.trans hb5)))
    have z5 : b2 < w5.heap.size := World.block_lt_of_cell? _ _ q4
    clear hv5 N5
    go_wp2_with fail
    rw [← hW5]
    clear hW5 q4 q5
    refine (EV.out W5 a5 c5 a2 c2 (VS_mono O5.out.vs fun _ _ hb => Nat.zero_le _) (V2.out _ E2.out)).mono ?_
    rintro e w6 ⟨rfl, hb6⟩
    have X6 : Hid (Ex W5 w6) := hb6
    have Kg : Hid (∀ w', Ex W5 w' → Ex Wg w') := fun w' h => X5.out.trans h
    have K3 : Hid (∀ w', Ex W5 w' → Ex W3 w') := fun w' h => X4.out.trans (Xg.out.trans (X5.out.trans h))
    have K0 : Hid (∀ w', Ex W5 w' → Ex W0 w') := fun w' h => X2.out.trans (X3.out.trans (K3.out _ h))
    have KS : Hid (∀ w', Ex W5 w' → (Ex W5 w' ∧ w'.cell? ⟨w.heap.size, 0, none⟩ = some (.int .i64 n) ∧ w'.cell? ⟨w.heap.size, 1, none⟩ = some (.slice a (len f) c) ∧ w'.cell? ⟨w.heap.size + 1, 0, none⟩ = some (.int .i64 m) ∧ w'.cell? ⟨w.heap.size + 1, 1, none⟩ = some (.slice ag (len g) cg) ∧ w'.cell? ⟨w3.heap.size, 0, none⟩ = some (.int .i64 n) ∧ w'.cell? ⟨w3.heap.size, 1, none⟩ = some (.slice a3 (len f) c3) ∧ w'.cell? ⟨wg.heap.size, 0, none⟩ = some (.int .i64 m) ∧ w'.cell? ⟨wg.heap.size, 1, none⟩ = some (.slice bg (len g) dg))) := fun w' h => ⟨h, (C0.out w' (K0.out _ h)).1.1, (C0.out w' (K0.out _ h)).1.2, (C0.out w' (K0.out _ h)).2.1, (C0.out w' (K0.out _ h)).2.2, (C3.out w' (K3.out _ h)).1, (C3.out w' (K3.out _ h)).2, (Cg.out w' (Kg.out _ h)).1, (Cg.out w' (Kg.out _ h)).2⟩
    clear hb6
    go_wp2_with fail
    go_region_held3 (fun w' => Ex W5 w' ∧ w'.cell? ⟨w.heap.size, 0, none⟩ = some (.int .i64 n) ∧ w'.cell? ⟨w.heap.size, 1, none⟩ = some (.slice a (len f) c) ∧ w'.cell? ⟨w.heap.size + 1, 0, none⟩ = some (.int .i64 m) ∧ w'.cell? ⟨w.heap.size + 1, 1, none⟩ = some (.slice ag (len g) cg) ∧ w'.cell? ⟨w3.heap.size, 0, none⟩ = some (.int .i64 n) ∧ w'.cell? ⟨w3.heap.size, 1, none⟩ = some (.slice a3 (len f) c3) ∧ w'.cell? ⟨wg.heap.size, 0, none⟩ = some (.int .i64 m) ∧ w'.cell? ⟨wg.heap.size, 1, none⟩ = some (.slice bg (len g) dg)) ((refine KS.out _ ?_; first | exact X6.out.drew | exact Ex.trans (And.left ‹Ex _ _ ∧ _›) ‹Ex _ _› | exact (And.left ‹Ex _ _ ∧ _›))) (first | (go_at_call 50; refine (TV.out _ (K0.out _ (And.left ‹Ex _ _ ∧ _›))).mono ?_; rintro e w7 ⟨a7, c7, rfl, hv7, hb7⟩) | (go_at_call 51; refine (EF.out _ a3 c3 a7 c7 (VS_mono (O3.out _ (K3.out _ (And.left ‹Ex _ _ ∧ _›))).vs fun _ _ hb => Nat.zero_le _) (VS_mono hv7.vs fun _ _ hb => Nat.zero_le _)).mono ?_; rintro e w8 ⟨rfl, hb8⟩))
    have X8 : Hid (Ex W5 w8) := And.left ‹Ex W5 w8 ∧ _›
    go_wp2_with fail
    refine (TI.out w8 (K0.out _ X8.out)).mono ?_
    rintro e w9 ⟨rfl, hi9, hb9⟩
    have X9 : Hid (Ex W5 w9) := X8.out.trans hb9
    have PA9 : Hid (PA w9 0 p (some ⟨w8.heap.size, 0, none⟩)) := hi9.pa (Nat.zero_le _)
    clear hi9
    go_wp2_with fail
    refine (eqIntS_same p _ _ _ _ w9 hp ((I4.out _ (Xg.out.trans (X5.out.trans X9.out))).pa (Nat.zero_le _)) PA9.out).mono ?_
    rintro e w9' ⟨rfl, hb9'⟩
    have X9' : Hid (Ex W5 w9') := X9.out.trans hb9'
    go_wp2_with fail
    go_region_held3 (fun w' => Ex W5 w' ∧ w'.cell? ⟨w.heap.size, 0, none⟩ = some (.int .i64 n) ∧ w'.cell? ⟨w.heap.size, 1, none⟩ = some (.slice a (len f) c) ∧ w'.cell? ⟨w.heap.size + 1, 0, none⟩ = some (.int .i64 m) ∧ w'.cell? ⟨w.heap.size + 1, 1, none⟩ = some (.slice ag (len g) cg) ∧ w'.cell? ⟨w3.heap.size, 0, none⟩ = some (.int .i64 n) ∧ w'.cell? ⟨w3.heap.size, 1, none⟩ = some (.slice a3 (len f) c3) ∧ w'.cell? ⟨wg.heap.size, 0, none⟩ = some (.int .i64 m) ∧ w'.cell? ⟨wg.heap.size, 1, none⟩ = some (.slice bg (len g) dg)) ((refine KS.out _ ?_; first | exact X9'.out.drew | exact Ex.trans (And.left ‹Ex _ _ ∧ _›) ‹Ex _ _› | exact (And.left ‹Ex _ _ ∧ _›))) (first | (go_at_call 50; refine (TG.out _ (K0.out _ (And.left ‹Ex _ _ ∧ _›))).mono ?_; rintro e wh ⟨ah, ch, rfl, hvh, hbh⟩) | (go_at_call 51; refine (EG.out _ bg dg ah ch (VS_mono (Og.out _ (Kg.out _ (And.left ‹Ex _ _ ∧ _›))).vs fun _ _ hb => Nat.zero_le _) (VS_mono hvh.vs fun _ _ hb => Nat.zero_le _)).mono ?_; rintro e w10 ⟨rfl, hb10⟩))
    have X10 : Hid (Ex W5 w10) := And.left ‹Ex W5 w10 ∧ _›
    obtain ⟨q2, q3⟩ := C3.out w10 (K3.out _ X10.out)
    obtain ⟨cur, hc1, hc2, _⟩ := I4.out w10 (Xg.out.trans (X5.out.trans X10.out))
    have HC1 : Hid _ := hc1
    clear hc1
    go_wp2_with fail
    refine Calls.mono (markVal_any (dep f + 1) n f a3 c3 (fun b => W2.heap.size ≤ b ∧ b < w3.heap.size) 1 w10 (O3.out _ (K3.out _ X10.out)) hlf (by omega) (by omega)) ?_
    rintro e w11 ⟨rfl, _, hF11⟩
    have he : (1 : Int) + (sz f : Int) = ((1 + sz f : Nat) : Int) := by push_cast; rfl
    rw [he]
    clear he q2 q3
    have E11 : Hid (Ex W2 w11) := hF11.to_ex (E2.out.trans X10.out) (fun k hk => hk.1)
    have F11 : Hid _ := hF11
    have i11 : w11.heap[W3.heap.size]? = some (.cells cur 3 (0, 0)) := (hF11.block _ (lt_of_block HC1.out) fun h => by have := SZ3.out.1; have := h.2; omega).trans HC1.out
    have I11 : Hid _ := i11
    obtain ⟨k1, hk1⟩ : ∃ k1, k1 = 1 + sz f := ⟨_, rfl⟩
    rw [← hk1]
    have hk1' : k1 ≤ 1000000000 := by omega
    have hk1'' : k1 ≤ 1048577 := by omega
    clear i11 hF11 hk1
    go_wp2_with fail
    refine (markIntS_any p.length p.length W3.heap.size k1 cur w11 hp hk1' I11.out hc2).mono ?_
    rintro e w11' ⟨rfl, hF12⟩
    obtain ⟨k2, hk2⟩ : ∃ k2 : Int, k2 = ((k1 + p.length : Nat) : Int) := ⟨_, rfl⟩
    rw [← hk2]
    have hk20 : 0 ≤ k2 := by omega
    have hk21 : k2 + sz g ≤ 1000000000 := by push_cast at hk2; omega
    have E12 : Hid (Ex W2 w11') := hF12.to_ex E11.out (by have := SZ3.out; omega)
    have step : ∀ (d : Nat) (S : Nat → Prop) (x : F) (ax : Option Addr), (∀ b, S b → w4.heap.size ≤ b) → VO d w10 S x ax → VO d w11' S x ax := fun d S x ax hS hv => (hv.ks fun b hb hlt => F11.out.block b hlt fun h => by have := SZ4.out; have := SZ3.out; have := hS b hb; have := h.2; omega).ks fun b hb hlt => hF12.block b hlt (by have := SZ4.out; have := hS b hb; omega)
    have stepC : ∀ (q : Addr) (v : Value), w4.heap.size ≤ q.block → w10.cell? q = some v → w11'.cell? q = some v := fun q v hq hc => hF12.at (by have := SZ4.out; omega) (F11.out.at (fun h => by have := SZ4.out; have := SZ3.out; have := h.2; omega) hc)
    have OG : Hid (VO (dep g + 1) w11' (fun b => w4.heap.size ≤ b ∧ b < wg.heap.size) g bg) := step _ _ _ _ (fun b hb => hb.1) (Og.out _ (Kg.out _ X10.out))
    have O11 : Hid (VO 8 w11' (fun b => Wg.heap.size ≤ b ∧ b < w5.heap.size) r2 a5) := step _ _ _ _ (fun b hb => by have := SZg.out; have := hb.1; omega) (O5.out.ex X10.out)
    have B11 : Hid (w11'.cell? ⟨w5.heap.size, 0, none⟩ = some (.int .i64 r1) ∧ w11'.cell? ⟨w5.heap.size, 1, none⟩ = some (.slice a5 (len r2) c5)) := ⟨stepC _ _ (by show w4.heap.size ≤ w5.heap.size; have := SZg.out; have := SZ5.out; omega) (X10.out.at C5.out.1), stepC _ _ (by show w4.heap.size ≤ w5.heap.size; have := SZg.out; have := SZ5.out; omega) (X10.out.at C5.out.2)⟩
    have q6 := stepC ⟨wg.heap.size, 0, none⟩ _ (by show w4.heap.size ≤ wg.heap.size; have := SZg.out; omega) (Cg.out _ (Kg.out _ X10.out)).1
    have q7 := stepC ⟨wg.heap.size, 1, none⟩ _ (by show w4.heap.size ≤ wg.heap.size; have := SZg.out; omega) (Cg.out _ (Kg.out _ X10.out)).2
    clear hF12 hk2 hk1' hk1'' step stepC
    go_wp2_with fail
    refine Calls.mono (markVal_any (dep g + 1) m g bg dg (fun b => w4.heap.size ≤ b ∧ b < wg.heap.size) k2 w11' OG.out hlg' hk20 hk21) ?_
    rintro e w12 ⟨rfl, _, hFg⟩
    have dk2 : decide (k2 + (sz g : Int) < 0) = false := by simp; omega
    have E12' : Hid (Ex W2 w12) := hFg.to_ex E12.out (fun k hk => by have := SZ3.out; have := SZ4.out; have := hk.1; omega)
    have O12 : Hid (VO 8 w12 (fun b => Wg.heap.size ≤ b ∧ b < w5.heap.size) r2 a5) := O11.out.ks fun b hb hlt => hFg.block b hlt fun h => by have := SZg.out; have := hb.1; have := h.2; omega
    have q8 := hFg.at (fun h => by have h' : w5.heap.size < wg.heap.size := h.2; have := SZg.out; have := SZ5.out; omega) B11.out.1
    have q9 := hFg.at (fun h => by have h' : w5.heap.size < wg.heap.size := h.2; have := SZg.out; have := SZ5.out; omega) B11.out.2
    obtain ⟨q10, q11⟩ := C2.out w12 E12'.out
    obtain ⟨k3, hk3⟩ : ∃ k3, k3 = k2 + (sz g : Int) := ⟨_, rfl⟩
    rw [← hk3] at dk2 ⊢
    clear hFg q6 q7 hk3
    go_wp2_with fail
    refine (EV.out w12 a5 c5 a2 c2 (VS_mono O12.out.vs fun _ _ hb => Nat.zero_le _) (V2.out _ E12'.out)).mono ?_
    rintro e w13 ⟨rfl, hb13⟩
    have E13 : Hid (Ex W2 w13) := E12'.out.trans hb13
    have q12 := hb13.at q8
    have q13 := hb13.at q9
    have hzr := ZR.out
    clear q8 q9 q10 q11
    go_wp2_with fail
    refine Calls.mono (markVal_any 8 r1 r2 a5 c5 (fun b => Wg.heap.size ≤ b ∧ b < w5.heap.size) 1 w13 (O12.out.ex hb13) SR.out.1 (by omega) (by omega)) ?_
    rintro e w14 ⟨rfl, hv14, hF14⟩
    have q14 := hF14.at (fun h => by have h' : w5.heap.size < w5.heap.size := h.2; omega) q12
    have q15 := hF14.at (fun h => by have h' : w5.heap.size < w5.heap.size := h.2; omega) q13
    have E14 : Hid (Ex W2 w14) := hF14.to_ex E13.out (fun k hk => by have := SZ3.out; have := SZ4.out; have := SZg.out; have := hk.1; omega)
    have V14 : Hid (∀ w', Ex w14 w' → VA w' 0 (mk 1 r2) a5) := fun _ h => VA_below (VS_mono hv14.vs fun _ _ hb => Nat.zero_le _) h
    have C14 : Hid (∀ w', Ex w14 w' → w'.cell? ⟨w5.heap.size, 0, none⟩ = some (.int .i64 r1) ∧ w'.cell? ⟨w5.heap.size, 1, none⟩ = some (.slice a5 (len r2) c5)) := fun _ h => ⟨h.at q14, h.at q15⟩
    obtain ⟨mm, hmm⟩ : ∃ mm, mm = (1 : Int) + (sz r2 : Int) := ⟨_, rfl⟩
    have HL : Hid (∀ w', Ex w14 w' → Calls Try.prog 53 #[.agg #[.int .i64 r1, .slice a5 (len r2) c5], .int .i64 1] w' fun e w'' => e = .returned (.int .i64 mm) ∧ Ex w' w'') := fun w' h => by
      have := heldVal_any r1 r2 a5 c5 0 1 w' SR.out.1 (by omega) (by omega) (V14.out _ h)
      rw [← hmm] at this; exact this
    rw [← hmm]
    have dmm : decide (mm < 0) = false := by simp; omega
    have nmm : (mm != mm) = false := by simp
    clear hv14 hF14 q12 q13 hmm hzr
    go_wp2_with fail
    refine (HL.out w14 (Ex.refl _)).mono ?_
    rintro e w15 ⟨rfl, hb15⟩
    have E15 : Hid (Ex W0 w15) := X2.out.trans (E14.out.trans hb15)
    have H1' : Hid (Ex W0 w15) := E15.out
    obtain ⟨⟨q0, q1⟩, q2, q3⟩ := C0.out w15 E15.out
    have y15 : w.heap.size < w15.heap.size := World.block_lt_of_cell? _ _ q0
    have y15' : w.heap.size + 1 < w15.heap.size := World.block_lt_of_cell? _ _ q2
    clear q14 q15
    go_upto_region 37 with fail
    go_cut [18, 19] from 113 to 122 (fun p18 p19 wx => p19 = .bool ok ∧ ∃ b a' c', p18 = .pointer (some ⟨b, 0, none⟩) ∧ wx.cell? ⟨b, 0, none⟩ = some (.int .i64 r1) ∧ wx.cell? ⟨b, 1, none⟩ = some (.slice a' (len r2) c') ∧ Ex w15 wx ∧ VA wx 0 r2 a')
    case first =>
      go_region_with (first | (go_at_call_of 50 (Value.slice a (len f) c); refine (TV.out _ (H1'.out.trans (by first | exact (Ex.refl _).drew | exact (Ex.refl _).drew.alloc _))).mono ?_; rintro e wA ⟨aA, cA, rfl, hvA, hbA⟩; have xA : Ex w15 wA := (by refine Ex.trans ?_ hbA; first | exact (Ex.refl _).drew | exact (Ex.refl _).drew.alloc _); have vA : Hid (∀ w', Ex wA w' → VA w' 0 f aA) := fun _ h => VA_below (VS_mono hvA.vs fun _ _ hb => Nat.zero_le _) h; have qA := xA.at q2; have qA' := xA.at q3; have zA : w.heap.size + 1 < wA.heap.size := World.block_lt_of_cell? _ _ qA; first | (have ob : wA.heap[w15.heap.size]? = some (.cells #[.int .i64 0, .slice none 0 0] 39 (0, 0)) := hbA.blk (heap_alloc_at _ _ rfl)) | skip) | (go_at_call 44; refine (TI.out _ (H1'.out.trans (by first | exact xA | exact xA.alloc _))).mono ?_; rintro e wB ⟨rfl, hiB, hbB⟩; have xB : Ex wA wB := (by refine Ex.trans ?_ hbB; first | exact Ex.refl _ | exact Ex.new _ _); (try rw [World.size_alloc] at hiB); have pB : Hid (∀ w', Ex wB w' → PA w' 0 p (some ⟨_, 0, none⟩)) := fun _ h => PA_below (hiB.pa (Nat.zero_le _)) h; have qB := xB.at qA; have qB' := xB.at qA'; have zB : w.heap.size + 1 < wB.heap.size := World.block_lt_of_cell? _ _ qB; first | (have ob2 := xB.blk ob) | (have ob2 : wB.heap[wA.heap.size]? = some (.cells #[.int .i64 0, .slice none 0 0] 39 (0, 0)) := hbB.blk (heap_alloc_at _ _ rfl)) | skip) | (go_at_call_of 50 (Value.slice ag (len g) cg); refine (TG.out _ (H1'.out.trans (xA.trans (xB.trans (by first | exact Ex.refl _ | exact Ex.new _ _))))).mono ?_; rintro e wC ⟨aC, cC, rfl, hvC, hbC⟩; have xC : Ex wB wC := (by refine Ex.trans ?_ hbC; first | exact Ex.refl _ | exact Ex.new _ _); have vC : Hid (∀ w', Ex wC w' → VA w' 0 g aC) := fun _ h => VA_below (VS_mono hvC.vs fun _ _ hb => Nat.zero_le _) h; first | (have ob3 := xC.blk ob2) | (have ob3 : wC.heap[wB.heap.size]? = some (.cells #[.int .i64 0, .slice none 0 0] 39 (0, 0)) := hbC.blk (heap_alloc_at _ _ rfl)) | skip) | (go_at_call 40; refine Calls.mono (IA.out _ aA cA _ _ aC cC (Nat.le_refl _) hpm (vA.out _ (by first | exact xB.trans xC | exact (xB.trans xC).alloc _)) (pB.out _ (by first | exact xC | exact xC.alloc _)) (vC.out _ (by first | exact Ex.refl _ | exact Ex.new _ _))) ?_; rintro e wD ⟨aD, cD, rfl, hvD, hbD⟩; have xD : Ex wC wD := (by refine Ex.trans ?_ hbD; first | exact Ex.refl _ | exact Ex.new _ _); have vD : VA wD 0 r2 aD := VS_mono hvD.vs fun _ _ hb => Nat.zero_le _; have vE : ∀ b u v, b < _ → VA ((wD.setCell ⟨b, 0, none⟩ u).setCell ⟨b, 1, none⟩ v) 0 r2 aD := fun b u v hb => VA_lo (VA_set (VA_set (VS_mono hvD.vs fun _ _ hb => hb) hb _) hb _) (Nat.zero_le _); have xE : Ex w15 wD := xA.trans (xB.trans (xC.trans xD)); (first | (have ob4 := xD.blk ob3) | (have ob4 : wD.heap[wC.heap.size]? = some (.cells #[.int .i64 0, .slice none 0 0] 39 (0, 0)) := hbD.blk (heap_alloc_at _ _ rfl)) | skip); first | (have oc := two_cell0 ob4; have oc1 := two_cell1 ob4; have oz := two_free (i := 0) ob4; have oz1 := two_free (i := 1) ob4; have ozl := lt_of_block ob4) | skip))
      all_goals
        go_wp2_with fail
        go_meet
        first
          | exact ⟨rfl, _, aD, cD, rfl, two_cell0 (two_set ob4), two_cell1 (two_set ob4), Ex.set (Ex.set xE (by first | exact Nat.le_refl _ | exact xA.size | exact (xA.trans xB).size | exact (xA.trans (xB.trans xC)).size) _) (by first | exact Nat.le_refl _ | exact xA.size | exact (xA.trans xB).size | exact (xA.trans (xB.trans xC)).size) _, vE _ _ _ (by first | exact lt_of_block ob3 | (rw [World.size_alloc]; exact Nat.lt_succ_self _))⟩
          | exact ⟨rfl, wD.heap.size, aD, cD, rfl, World.cell?_alloc_new _ _ _ _, World.cell?_alloc_new _ _ _ _, xE.alloc _, VA_below vD (Ex.new _ _)⟩
    case rest =>
      rename World => W18
      obtain ⟨rfl, b18, a18, c18, rfl, k180, k181, xW18, hv18⟩ := hcut
      have X18 : Hid (Ex w14 W18) := hb15.trans xW18
      obtain ⟨q8, q9⟩ := C2.out W18 (E14.out.trans X18.out)
      clear q0 q1 q2 q3
      go_wp2_with fail
      refine (EV.out _ a18 c18 a2 c2 hv18 (V2.out _ (E14.out.trans X18.out))).mono ?_
      rintro e w19 ⟨rfl, hb19⟩
      have X19 : Hid (Ex w14 w19) := X18.out.trans hb19
      obtain ⟨q10, q11⟩ := C14.out w19 X19.out
      clear q8 q9
      go_wp2_with fail
      refine (HL.out w19 X19.out).mono ?_
      rintro e w20 ⟨rfl, hb20⟩
      go_wp2_with fail
      go_ret
      exact ⟨rfl, X0.out.trans (X2.out.trans (E14.out.trans (X19.out.trans hb20)))⟩

end Go.Proofs.Ytomnekiiccbioaa
