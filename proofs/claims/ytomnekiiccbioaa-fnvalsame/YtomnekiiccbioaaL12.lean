/- The law that to put what was there changes nothing, walked. -/
import Derived.Test.YtomnekiiccbioaaM2
import Derived.Test.YtomnekiiccbioaaD8
import Derived.Test.YtomnekiiccbioaaV9
import Derived.Test.YtomnekiiccbioaaL4
namespace Go.Proofs.Ytomnekiiccbioaa
open Go.RowKit Go.Deep
attribute [local go_sem ↓] Go.wp_at_zero Go.wp_at_succ

set_option maxRecDepth 100000 in
set_option maxHeartbeats 4000000 in
theorem lawValSame (n cc : Nat) (ca : Option Addr) (w : World) (hn : n ≤ cc) (hc : cc ≤ 9223372036854775807) (hB : By w n ca) :
    Calls Try.prog 12 #[.slice ca n cc] w fun e w' => e = .returned (.bool true) ∧ Ex w w' := by
  have B : Hid (By w n ca) := hB
  clear hB
  by_cases hbig : 1048576 < n
  · have d1 : decide ((1048576 : Int) < (n : Int)) = true := by simp; omega
    go_enter Try.func12, Try.ntmps12
    go_wp2_with fail
    go_ret
    exact ⟨rfl, Ex.refl _⟩
  have d1 : decide ((1048576 : Int) < (n : Int)) = false := by simp; omega
  go_enter Try.func12, Try.ntmps12
  go_wp2_with fail
  refine (DrawValAt_any n cc ca _ hn hc B.out).mono ?_
  rintro e w1 ⟨k, f, a, c, p, pa, pc, rfl, hv, hsm, hpa, hpl, ⟨hpc, hpm, hpx⟩, hx1⟩
  obtain ⟨W1, hW1⟩ : ∃ W1, W1 = w1.alloc (.cells #[.int .i64 k, .slice a (len f) c] 39) := ⟨_, rfl⟩
  have X1 : Hid (Ex w1 W1) := hW1 ▸ (Ex.new _ _)
  have XW : Hid (Ex w W1) := hx1.trans X1.out
  have VV : Hid (∀ w', Ex W1 w' → VA w' 0 f a) := fun _ h => VA_lo (VA_below hv (X1.out.trans h)) (Nat.zero_le _)
  have PP : Hid (∀ w', Ex W1 w' → PA w' 0 p pa) := fun _ h => PA_below (PA_lo hpa (Nat.zero_le _)) (X1.out.trans h)
  have CA : Hid (∀ w', Ex W1 w' → w'.cell? ⟨w1.heap.size, 0, none⟩ = some (.int .i64 k) ∧ w'.cell? ⟨w1.heap.size, 1, none⟩ = some (.slice a (len f) c)) := fun w' h => ⟨h.at (hW1 ▸ (by simp)), h.at (hW1 ▸ (by simp))⟩
  have IS : Hid (∀ w', Ex W1 w' → Calls Try.prog 36 #[.agg #[.int .i64 k, .slice a (len f) c], .slice pa p.length pc] w' (VAtPost k f p w')) := fun w' h => sValAt_any k f p a c pa pc 0 w' (by omega) hsm.1 hsm.2 (VV.out _ h) (PP.out _ h)
  have II : Hid (∀ w', Ex W1 w' → Calls Try.prog 34 #[.agg #[.int .i64 k, .slice a (len f) c], .slice pa p.length pc] w' (VAtPost k f p w')) := fun w' h => iValAt_any k f p a c pa pc 0 w' (by omega) (VV.out _ h) (PP.out _ h)
  have SR : Hid (len (valAtR k f p).1.2 ≤ 1000000000 ∧ Sm (valAtR k f p).1.2) := ⟨(valAt_sm k f p).1, (valAt_sm k f p).2.1⟩
  have HR : Hid ((valAtR k f p).2 = true → ∃ m0 g0, valAtR k f p = ((m0, g0), true) ∧ valPutR k f p m0 g0 = (putV p k f m0 g0, true) ∧ (putV p k f m0 g0).1 = k ∧ eqV (putV p k f m0 g0).2 f = true) := put_same
  have IQ : Hid (∀ (m : Int) (g : F) (w' : World) (a' : Option Addr) (c' : Nat), VA w' 0 g a' → Ex W1 w' → Calls Try.prog 40 #[.agg #[.int .i64 k, .slice a (len f) c], .slice pa p.length pc, .agg #[.int .i64 m, .slice a' (len g) c']] w' (PutPost (valPutR k f p m g) w')) := fun m g w' a' c' h1 h => iValPut_any k f p m g a a' pa c c' pc 0 0 w' (by omega) hpc hpm (VV.out _ h) h1 (PP.out _ h)
  have SF : Hid (len f ≤ 1000000000 ∧ Sm f) := hsm
  have z1 : w1.heap.size < W1.heap.size := by rw [hW1]; simp
  clear hv hsm hpa hpx hx1
  obtain ⟨R, hR⟩ : ∃ R, R = valAtR k f p := ⟨_, rfl⟩
  have IS' : Hid (∀ w', Ex W1 w' → Calls Try.prog 36 #[.agg #[.int .i64 k, .slice a (len f) c], .slice pa p.length pc] w' (SPutPost R w')) := by rw [hR]; exact IS.out
  have II' : Hid (∀ w', Ex W1 w' → Calls Try.prog 34 #[.agg #[.int .i64 k, .slice a (len f) c], .slice pa p.length pc] w' (SPutPost R w')) := by rw [hR]; exact II.out
  rw [← hR] at SR HR
  clear hR IS II
  obtain ⟨⟨r1, r2⟩, ok⟩ := R
  simp only at SR HR
  have LR : Hid (∀ w' a' c' a'' c'', VA w' 0 r2 a' → VA w' 0 r2 a'' → Calls Try.prog 37 #[.agg #[.int .i64 r1, .slice a' (len r2) c'], .agg #[.int .i64 r1, .slice a'' (len r2) c'']] w' fun e w'' => e = .returned (.bool true) ∧ Ex w' w'') := fun w' a' c' a'' c'' h h' => by
    have := lhVal_any (dep r2 + 1) r1 r1 r2 r2 a' a'' c' c'' 0 0 w' (by omega) SR.out.1 SR.out.2 h h'
    rw [eqV_refl] at this; simpa using this
  go_wp2_with fail
  rw [← hW1]
  clear hW1
  refine Calls.mono (IS'.out _ (Ex.refl _)) ?_
  rintro e w2 ⟨a2, c2, rfl, hv2, hb2⟩
  obtain ⟨qa, qb⟩ := CA.out w2 hb2
  have za : w1.heap.size < w2.heap.size := World.block_lt_of_cell? _ _ qa
  obtain ⟨W2, hW2⟩ : ∃ W2, W2 = w2.alloc (.cells #[.int .i64 r1, .slice a2 (len r2) c2] 39) := ⟨_, rfl⟩
  have N2 : Ex w2 W2 := hW2 ▸ Ex.new _ _
  have X2 : Hid (Ex W1 W2) := hb2.trans N2
  have V2 : Hid (∀ w', Ex W2 w' → VA w' 0 r2 a2) := fun _ h => VA_lo (VA_below hv2 (N2.trans h)) (Nat.zero_le _)
  have CB : Hid (∀ w', Ex W2 w' → w'.cell? ⟨w2.heap.size, 0, none⟩ = some (.int .i64 r1) ∧ w'.cell? ⟨w2.heap.size, 1, none⟩ = some (.slice a2 (len r2) c2)) := fun w' h => ⟨h.at (hW2 ▸ World.cell?_alloc_new _ _ _ _), h.at (hW2 ▸ World.cell?_alloc_new _ _ _ _)⟩
  clear hv2 N2
  go_wp2_with fail
  rw [← hW2]
  clear hW2 qa qb
  refine Calls.mono (II'.out _ X2.out) ?_
  rintro e w3 ⟨a3, c3, rfl, hv3, hb3⟩
  obtain ⟨qe, qf⟩ := CB.out w3 hb3
  have zc : w2.heap.size < w3.heap.size := World.block_lt_of_cell? _ _ qe
  obtain ⟨W3, hW3⟩ : ∃ W3, W3 = w3.alloc (.cells #[.int .i64 r1, .slice a3 (len r2) c3] 39) := ⟨_, rfl⟩
  have N3 : Ex w3 W3 := hW3 ▸ Ex.new _ _
  have Y3 : Hid (Ex W2 W3) := hb3.trans N3
  have X3 : Hid (Ex W1 W3) := X2.out.trans Y3.out
  have V3 : Hid (∀ w', Ex W3 w' → VA w' 0 r2 a3) := fun _ h => VA_lo (VA_below hv3 (N3.trans h)) (Nat.zero_le _)
  have CC : Hid (∀ w', Ex W3 w' → w'.cell? ⟨w3.heap.size, 0, none⟩ = some (.int .i64 r1) ∧ w'.cell? ⟨w3.heap.size, 1, none⟩ = some (.slice a3 (len r2) c3)) := fun w' h => ⟨h.at (hW3 ▸ World.cell?_alloc_new _ _ _ _), h.at (hW3 ▸ World.cell?_alloc_new _ _ _ _)⟩
  clear hv3 N3
  cases ok
  · go_wp2_with fail
    rw [← hW3]
    clear hW3 qe qf
    refine (LR.out W3 a3 c3 a2 c2 (V3.out _ (Ex.refl _)) (V2.out _ Y3.out)).mono ?_
    rintro e w4 ⟨rfl, hb4⟩
    obtain ⟨qe, qf⟩ := CB.out w4 (Y3.out.trans hb4)
    obtain ⟨qg, qh⟩ := CC.out w4 hb4
    go_wp2_with fail
    refine (LR.out w4 a3 c3 a2 c2 (V3.out _ hb4) (V2.out _ (Y3.out.trans hb4))).mono ?_
    rintro e w5 ⟨rfl, hb5⟩
    go_wp2_with fail
    go_ret
    exact ⟨rfl, XW.out.trans (X3.out.trans (hb4.trans hb5))⟩
  obtain ⟨m0, g0, hRR, hp1, hs1, hs2⟩ := HR.out rfl
  obtain ⟨e1, _⟩ := Prod.mk.inj hRR
  obtain ⟨rfl, rfl⟩ := Prod.mk.inj e1
  have IQ' : Hid (∀ w' a' c', VA w' 0 r2 a' → Ex W1 w' → Calls Try.prog 40 #[.agg #[.int .i64 k, .slice a (len f) c], .slice pa p.length pc, .agg #[.int .i64 r1, .slice a' (len r2) c']] w' (PutPost (putV p k f r1 r2, true) w')) := fun w' a' c' h1 h => by
    have := IQ.out r1 r2 w' a' c' h1 h
    rw [hp1] at this; exact this
  have SY : Hid (len (putV p k f r1 r2).2 ≤ 1000000000 ∧ Sm (putV p k f r1 r2).2) := by have := put_sm k f p r1 r2; rw [hp1] at this; exact this
  obtain ⟨Y, hY⟩ : ∃ Y, Y = putV p k f r1 r2 := ⟨_, rfl⟩
  rw [← hY] at IQ' SY hs1 hs2
  obtain ⟨y1, y2⟩ := Y
  simp only at SY hs1 hs2
  have QE : Hid ((y1 == k && eqV y2 f) = true) := by show _ = _; rw [hs1, hs2]; simp
  have LY : Hid (∀ w' a' c' a'' c'', VA w' 0 y2 a' → VA w' 0 f a'' → Calls Try.prog 37 #[.agg #[.int .i64 y1, .slice a' (len y2) c'], .agg #[.int .i64 k, .slice a'' (len f) c'']] w' fun e w'' => e = .returned (.bool true) ∧ Ex w' w'') := fun w' a' c' a'' c'' h h' => by
    have := lhVal_any (dep y2 + 1) y1 k y2 f a' a'' c' c'' 0 0 w' (by omega) SY.out.1 SY.out.2 h h'
    rw [QE.out] at this; simpa using this
  clear HR hRR hp1 hs1 hs2 hY e1 IQ
  go_wp2_with fail
  rw [← hW3]
  clear hW3 qe qf
  refine (LR.out W3 a3 c3 a2 c2 (V3.out _ (Ex.refl _)) (V2.out _ Y3.out)).mono ?_
  rintro e w4 ⟨rfl, hb4⟩
  obtain ⟨qa, qb⟩ := CA.out w4 (X3.out.trans hb4)
  obtain ⟨qg, qh⟩ := CC.out w4 hb4
  have zd : w3.heap.size < w4.heap.size := World.block_lt_of_cell? _ _ qg
  have ze : w1.heap.size < w4.heap.size := World.block_lt_of_cell? _ _ qa
  go_wp2_with fail
  refine Calls.mono (IQ'.out w4 a3 c3 (V3.out _ hb4) (X3.out.trans hb4)) ?_
  rintro e w5 ⟨a5, c5, rfl, hv5, hb5⟩
  clear qa qb
  obtain ⟨qa, qb⟩ := CA.out w5 (X3.out.trans (hb4.trans hb5))
  have zg : w1.heap.size < w5.heap.size := World.block_lt_of_cell? _ _ qa
  have V5 : Hid (VA (w5.alloc (.cells #[.int .i64 y1, .slice a5 (len y2) c5] 39)) 0 y2 a5) := VA_lo (VA_below (VS_mono hv5.vs fun _ _ hb => hb) (Ex.new _ _)) (Nat.zero_le _)
  clear hv5
  go_wp2_with fail
  refine (LY.out _ a5 c5 a c V5.out (VV.out _ ((X3.out.trans (hb4.trans hb5)).trans (Ex.new _ _)))).mono ?_
  rintro e w6 ⟨rfl, hb6⟩
  go_wp2_with fail
  go_ret
  exact ⟨rfl, XW.out.trans (X3.out.trans (hb4.trans (hb5.trans ((Ex.new _ _).trans hb6))))⟩

end Go.Proofs.Ytomnekiiccbioaa
