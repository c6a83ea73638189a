/- The law that what is put is there, walked. -/
import Derived.Test.YtomnekiiccbioaaM2
import Derived.Test.YtomnekiiccbioaaD9
import Derived.Test.YtomnekiiccbioaaV9
import Derived.Test.YtomnekiiccbioaaL4
namespace Go.Proofs.Ytomnekiiccbioaa
open Go.RowKit Go.Deep
attribute [local go_sem ↓] Go.wp_at_zero Go.wp_at_succ

set_option maxRecDepth 100000 in
set_option maxHeartbeats 4000000 in
theorem lawValPut (n cc : Nat) (ca : Option Addr) (w : World) (hn : n ≤ cc) (hc : cc ≤ 9223372036854775807) (hB : By w n ca) :
    Calls Try.prog 9 #[.slice ca n cc] w fun e w' => e = .returned (.bool true) ∧ Ex w w' := by
  have B : Hid (By w n ca) := hB
  clear hB
  by_cases hbig : 1048576 < n
  · have d1 : decide ((1048576 : Int) < (n : Int)) = true := by simp; omega
    go_enter Try.func9, Try.ntmps9
    go_wp2_with fail
    go_ret
    exact ⟨rfl, Ex.refl _⟩
  have d1 : decide ((1048576 : Int) < (n : Int)) = false := by simp; omega
  go_enter Try.func9, Try.ntmps9
  go_wp2_with fail
  refine (DrawValPut_any n cc ca _ hn hc B.out).mono ?_
  rintro e w1 ⟨k, f, a, c, p, pa, pc, m, g, ag, cg, rfl, ⟨hv, hvl, hvs⟩, ⟨hpa, hpl, hpc, hpm, hpx⟩, ⟨hg, hgl, hgs⟩, hx1⟩
  obtain ⟨W1, hW1⟩ : ∃ W1, W1 = (w1.alloc (.cells #[.int .i64 k, .slice a (len f) c] 39)).alloc (.cells #[.int .i64 m, .slice ag (len g) cg] 39) := ⟨_, rfl⟩
  have X1 : Hid (Ex w1 W1) := hW1 ▸ ((Ex.new _ _).alloc _)
  have XW : Hid (Ex w W1) := hx1.trans X1.out
  have VV : Hid (∀ w', Ex W1 w' → VA w' 0 f a) := fun _ h => VA_lo (VA_below hv (X1.out.trans h)) (Nat.zero_le _)
  have VG : Hid (∀ w', Ex W1 w' → VA w' 0 g ag) := fun _ h => VA_lo (VA_below hg (X1.out.trans h)) (Nat.zero_le _)
  have PP : Hid (∀ w', Ex W1 w' → PA w' 0 p pa) := fun _ h => PA_below (PA_lo hpa (Nat.zero_le _)) (X1.out.trans h)
  have SF : Hid (len f ≤ 1000000000 ∧ Sm f) := ⟨hvl, hvs⟩
  have SG : Hid (len g ≤ 1000000000 ∧ Sm g) := ⟨hgl, hgs⟩
  have PX : Hid _ := hpx
  have CA : Hid (∀ w', Ex W1 w' → w'.cell? ⟨w1.heap.size, 0, none⟩ = some (.int .i64 k) ∧ w'.cell? ⟨w1.heap.size, 1, none⟩ = some (.slice a (len f) c) ∧ w'.cell? ⟨w1.heap.size + 1, 0, none⟩ = some (.int .i64 m) ∧ w'.cell? ⟨w1.heap.size + 1, 1, none⟩ = some (.slice ag (len g) cg)) := fun w' h => ⟨h.at (hW1 ▸ (by simp)), h.at (hW1 ▸ (by simp)), h.at (hW1 ▸ (by simp)), h.at (hW1 ▸ (by simp))⟩
  have IS : Hid (∀ w', Ex W1 w' → Calls Try.prog 39 #[.agg #[.int .i64 k, .slice a (len f) c], .slice pa p.length pc, .agg #[.int .i64 m, .slice ag (len g) cg]] w' (SPutPost (valPutR k f p m g) w')) := fun w' h => sValPut_any k f p m g a ag pa c cg pc 0 0 w' (by omega) hpc hpm hvl hvs hgl hgs (VV.out _ h) (VG.out _ h) (PP.out _ h)
  have II : Hid (∀ w', Ex W1 w' → Calls Try.prog 40 #[.agg #[.int .i64 k, .slice a (len f) c], .slice pa p.length pc, .agg #[.int .i64 m, .slice ag (len g) cg]] w' (PutPost (valPutR k f p m g) w')) := fun w' h => iValPut_any k f p m g a ag pa c cg pc 0 0 w' (by omega) hpc hpm (VV.out _ h) (VG.out _ h) (PP.out _ h)
  have SR : Hid (len (valPutR k f p m g).1.2 ≤ 1000000000 ∧ Sm (valPutR k f p m g).1.2) := put_sm k f p m g
  have z1 : w1.heap.size + 1 < W1.heap.size := by rw [hW1]; simp
  clear hv hg hvs hgs hpa hpx hx1
  have HR : Hid ((valPutR k f p m g).2 = true → putOk k f p m g = true ∧ valPutR k f p m g = (putV p k f m g, true)) := fun h => by
    cases hp : putOk k f p m g with
    | false => simp [valPutR, hp] at h
    | true => exact ⟨rfl, by simp [valPutR, hp]⟩
  obtain ⟨R, hR⟩ : ∃ R, R = valPutR k f p m g := ⟨_, rfl⟩
  rw [← hR] at IS II SR HR
  clear hR
  obtain ⟨⟨r1, r2⟩, ok⟩ := R
  simp only at SR HR
  have LR : Hid (∀ w' a' c' a'' c'', VA w' 0 r2 a' → VA w' 0 r2 a'' → Calls Try.prog 37 #[.agg #[.int .i64 r1, .slice a' (len r2) c'], .agg #[.int .i64 r1, .slice a'' (len r2) c'']] w' fun e w'' => e = .returned (.bool true) ∧ Ex w' w'') := fun w' a' c' a'' c'' h h' => by
    have := lhVal_any (dep r2 + 1) r1 r1 r2 r2 a' a'' c' c'' 0 0 w' (by omega) SR.out.1 SR.out.2 h h'
    rw [eqV_refl] at this; simpa using this
  go_wp2_with fail
  rw [← hW1]
  clear hW1
  refine Calls.mono (IS.out _ (Ex.refl _)) ?_
  rintro e w2 ⟨a2, c2, rfl, hv2, hb2⟩
  obtain ⟨qa, qb, qc, qd⟩ := CA.out w2 hb2
  have za : w1.heap.size < w2.heap.size := World.block_lt_of_cell? _ _ qa
  have zb : w1.heap.size + 1 < w2.heap.size := World.block_lt_of_cell? _ _ qc
  obtain ⟨W2, hW2⟩ : ∃ W2, W2 = w2.alloc (.cells #[.int .i64 r1, .slice a2 (len r2) c2] 39) := ⟨_, rfl⟩
  have X2 : Hid (Ex W1 W2) := hW2 ▸ hb2.trans (Ex.new _ _)
  have V2 : Hid (∀ w', Ex W2 w' → VA w' 0 r2 a2) := fun _ h => VA_lo (VA_below hv2 ((hW2 ▸ (Ex.new _ _ : Ex w2 (w2.alloc _)) : Ex w2 W2).trans h)) (Nat.zero_le _)
  have CB : Hid (∀ w', Ex W2 w' → w'.cell? ⟨w2.heap.size, 0, none⟩ = some (.int .i64 r1) ∧ w'.cell? ⟨w2.heap.size, 1, none⟩ = some (.slice a2 (len r2) c2)) := fun w' h => ⟨h.at (hW2 ▸ World.cell?_alloc_new _ _ _ _), h.at (hW2 ▸ World.cell?_alloc_new _ _ _ _)⟩
  clear hv2
  go_wp2_with fail
  rw [← hW2]
  clear hW2 qa qb qc qd
  refine Calls.mono (II.out _ X2.out) ?_
  rintro e w3 ⟨a3, c3, rfl, hv3, hb3⟩
  obtain ⟨qe, qf⟩ := CB.out w3 hb3
  have zc : w2.heap.size < w3.heap.size := World.block_lt_of_cell? _ _ qe
  obtain ⟨W3, hW3⟩ : ∃ W3, W3 = w3.alloc (.cells #[.int .i64 r1, .slice a3 (len r2) c3] 39) := ⟨_, rfl⟩
  have Y3 : Hid (Ex W2 W3) := hW3 ▸ hb3.trans (Ex.new _ _)
  have X3 : Hid (Ex W1 W3) := X2.out.trans Y3.out
  have V3 : Hid (∀ w', Ex W3 w' → VA w' 0 r2 a3) := fun _ h => VA_lo (VA_below (VS_mono hv3.vs fun _ _ hb => hb) ((hW3 ▸ (Ex.new _ _ : Ex w3 (w3.alloc _)) : Ex w3 W3).trans h)) (Nat.zero_le _)
  have CC : Hid (∀ w', Ex W3 w' → w'.cell? ⟨w3.heap.size, 0, none⟩ = some (.int .i64 r1) ∧ w'.cell? ⟨w3.heap.size, 1, none⟩ = some (.slice a3 (len r2) c3)) := fun w' h => ⟨h.at (hW3 ▸ World.cell?_alloc_new _ _ _ _), h.at (hW3 ▸ World.cell?_alloc_new _ _ _ _)⟩
  clear hv3
  cases ok
  · go_wp2_with fail
    rw [← hW3]
    clear hW3 qe qf
    refine (LR.out W3 a3 c3 a2 c2 (V3.out _ (Ex.refl _)) (V2.out _ Y3.out)).mono ?_
    rintro e w4 ⟨rfl, hb4⟩
    obtain ⟨qe, qf⟩ := CB.out w4 (Y3.out.trans hb4)
    obtain ⟨qg, qh⟩ := CC.out w4 hb4
    go_wp2_with fail
    refine (LR.out w4 a3 c3 a2 c2 (V3.out _ hb4) (V2.out _ (Y3.out.trans hb4))).mono ?_
    rintro e w5 ⟨rfl, hb5⟩
    go_wp2_with fail
    go_ret
    exact ⟨rfl, XW.out.trans (X3.out.trans (hb4.trans hb5))⟩
  obtain ⟨hok, hRR⟩ := HR.out rfl
  have OK : Hid (putOk k f p m g = true) := hok
  have e1 : (putV p k f m g) = (r1, r2) := (Prod.mk.inj hRR).1.symm
  have PV : Hid (putV p k f m g = (r1, r2)) := e1
  clear hok hRR e1 HR
  have IA : Hid (∀ w' a' c', VA w' 0 r2 a' → Ex W1 w' → Calls Try.prog 34 #[.agg #[.int .i64 r1, .slice a' (len r2) c'], .slice pa p.length pc] w' fun e w'' => ∃ a' cap', e = .returned (.tuple #[.agg #[.int .i64 m, .slice a' (len g) cap'], .bool true]) ∧ VA w'' w'.heap.size g a' ∧ Ex w' w'') := fun w' a' c' h h' => by
    have := iValAt_any r1 r2 p a' c' pa pc 0 w' (by omega) h (PP.out _ h')
    have ht := put_there OK.out
    rw [PV.out] at ht
    simp only at ht
    rw [ht] at this; exact this
  have LG : Hid (∀ w' a' c' a'' c'', VA w' 0 g a' → VA w' 0 g a'' → Calls Try.prog 37 #[.agg #[.int .i64 m, .slice a' (len g) c'], .agg #[.int .i64 m, .slice a'' (len g) c'']] w' fun e w'' => e = .returned (.bool true) ∧ Ex w' w'') := fun w' a' c' a'' c'' h h' => by
    have := lhVal_any (dep g + 1) m m g g a' a'' c' c'' 0 0 w' (by omega) SG.out.1 SG.out.2 h h'
    rw [eqV_refl] at this; simpa using this
  go_wp2_with fail
  rw [← hW3]
  clear hW3 qe qf
  refine (LR.out W3 a3 c3 a2 c2 (V3.out _ (Ex.refl _)) (V2.out _ Y3.out)).mono ?_
  rintro e w4 ⟨rfl, hb4⟩
  obtain ⟨qg, qh⟩ := CC.out w4 hb4
  have zd : w3.heap.size < w4.heap.size := World.block_lt_of_cell? _ _ qg
  go_wp2_with fail
  refine (IA.out w4 a3 c3 (V3.out _ hb4) (X3.out.trans hb4)).mono ?_
  rintro e w5 ⟨a5, c5, rfl, hv5, hb5⟩
  obtain ⟨qa, qb, qc, qd⟩ := CA.out w5 (X3.out.trans (hb4.trans hb5))
  have ze : w1.heap.size + 1 < w5.heap.size := World.block_lt_of_cell? _ _ qc
  have V5 : Hid (VA (w5.alloc (.cells #[.int .i64 m, .slice a5 (len g) c5] 39)) 0 g a5) := VA_lo (VA_below hv5 (Ex.new _ _)) (Nat.zero_le _)
  clear hv5
  go_wp2_with fail
  refine (LG.out _ a5 c5 ag cg V5.out (VG.out _ ((X3.out.trans (hb4.trans hb5)).trans (Ex.new _ _)))).mono ?_
  rintro e w6 ⟨rfl, hb6⟩
  go_wp2_with fail
  go_ret
  exact ⟨rfl, XW.out.trans (X3.out.trans (hb4.trans (hb5.trans ((Ex.new _ _).trans hb6))))⟩

end Go.Proofs.Ytomnekiiccbioaa
