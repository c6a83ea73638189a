/- The law that a value stays of its type, walked. -/
import Derived.Test.YtomnekiiccbioaaM2
import Derived.Test.YtomnekiiccbioaaD9
import Derived.Test.YtomnekiiccbioaaV9
import Derived.Test.YtomnekiiccbioaaL4
namespace Go.Proofs.Ytomnekiiccbioaa
open Go.RowKit Go.Deep
attribute [local go_sem ↓] Go.wp_at_zero Go.wp_at_succ

set_option linter.unusedSimpArgs false in
set_option maxRecDepth 100000 in
set_option maxHeartbeats 4000000 in
theorem lawValType (n cc : Nat) (ca : Option Addr) (w : World) (hn : n ≤ cc) (hc : cc ≤ 9223372036854775807) (hB : By w n ca) :
    Calls Try.prog 13 #[.slice ca n cc] w fun e w' => e = .returned (.bool true) ∧ Ex w w' := by
  have B : Hid (By w n ca) := hB
  clear hB
  by_cases hbig : 1048576 < n
  · have d1 : decide ((1048576 : Int) < (n : Int)) = true := by simp; omega
    go_enter Try.func13, Try.ntmps13
    go_wp2_with fail
    go_ret
    exact ⟨rfl, Ex.refl _⟩
  have d1 : decide ((1048576 : Int) < (n : Int)) = false := by simp; omega
  go_enter Try.func13, Try.ntmps13
  go_wp2_with fail
  refine (DrawValOk_any n cc ca _ hn hc B.out).mono ?_
  rintro e w1 ⟨f0, a0, c0, k, f, a, c, rfl, ht, hsm, hv, hsg, hx1⟩
  obtain ⟨W1, hW1⟩ : ∃ W1, W1 = (w1.alloc (.cells #[.slice a0 (len f0) c0] 25)).alloc (.cells #[.int .i64 k, .slice a (len f) c] 39) := ⟨_, rfl⟩
  have X1 : Hid (Ex w1 W1) := hW1 ▸ ((Ex.new _ _).alloc _)
  have XW : Hid (Ex w W1) := hx1.trans X1.out
  have VT0 : Hid (∀ w', Ex W1 w' → TA w' 0 f0 a0) := fun _ h => TA_lo (TA_below ht (X1.out.trans h)) (Nat.zero_le _)
  have VV : Hid (∀ w', Ex W1 w' → VA w' 0 f a) := fun _ h => VA_lo (VA_below hv (X1.out.trans h)) (Nat.zero_le _)
  have SF : Hid (len f ≤ 1000000000 ∧ Sm f) := hsg
  have CA : Hid (∀ w', Ex W1 w' → w'.cell? ⟨w1.heap.size, 0, none⟩ = some (.slice a0 (len f0) c0) ∧ w'.cell? ⟨w1.heap.size + 1, 0, none⟩ = some (.int .i64 k) ∧ w'.cell? ⟨w1.heap.size + 1, 1, none⟩ = some (.slice a (len f) c)) := fun w' h => ⟨h.at (hW1 ▸ (by simp)), h.at (hW1 ▸ (by simp)), h.at (hW1 ▸ (by simp))⟩
  clear ht hsm hv hsg hx1
  go_wp2_with fail
  rw [← hW1]
  clear hW1
  refine Calls.mono (DrawValPut_any n cc ca _ hn hc (B.out.ex XW.out)) ?_
  rintro e w2 ⟨k2, f2, a2, c2, p, pa, pc, m, g, ag, cg, rfl, _, ⟨hpa, hpl, hpc, hpm, hpx⟩, ⟨hg, hgl, hgs⟩, hb2⟩
  obtain ⟨W2, hW2⟩ : ∃ W2, W2 = (w2.alloc (.cells #[.int .i64 k2, .slice a2 (len f2) c2] 39)).alloc (.cells #[.int .i64 m, .slice ag (len g) cg] 39) := ⟨_, rfl⟩
  have N2 : Ex w2 W2 := hW2 ▸ ((Ex.new _ _).alloc _)
  have X2 : Hid (Ex W1 W2) := hb2.trans N2
  have VG : Hid (∀ w', Ex W2 w' → VA w' 0 g ag) := fun _ h => VA_lo (VA_below hg (N2.trans h)) (Nat.zero_le _)
  have PP : Hid (∀ w', Ex W2 w' → PA w' 0 p pa) := fun _ h => PA_below (PA_lo hpa (Nat.zero_le _)) (N2.trans h)
  have CB : Hid (∀ w', Ex W2 w' → w'.cell? ⟨w2.heap.size + 1, 0, none⟩ = some (.int .i64 m) ∧ w'.cell? ⟨w2.heap.size + 1, 1, none⟩ = some (.slice ag (len g) cg)) := fun w' h => ⟨h.at (hW2 ▸ (by simp)), h.at (hW2 ▸ (by simp))⟩
  have IS : Hid (∀ w', Ex W2 w' → Calls Try.prog 39 #[.agg #[.int .i64 k, .slice a (len f) c], .slice pa p.length pc, .agg #[.int .i64 m, .slice ag (len g) cg]] w' (SPutPost (valPutR k f p m g) w')) := fun w' h => sValPut_any k f p m g a ag pa c cg pc 0 0 w' (by omega) hpc hpm SF.out.1 SF.out.2 hgl hgs (VV.out _ (X2.out.trans h)) (VG.out _ h) (PP.out _ h)
  have II : Hid (∀ w', Ex W2 w' → Calls Try.prog 40 #[.agg #[.int .i64 k, .slice a (len f) c], .slice pa p.length pc, .agg #[.int .i64 m, .slice ag (len g) cg]] w' (PutPost (valPutR k f p m g) w')) := fun w' h => iValPut_any k f p m g a ag pa c cg pc 0 0 w' (by omega) hpc hpm (VV.out _ (X2.out.trans h)) (VG.out _ h) (PP.out _ h)
  have SR : Hid (len (valPutR k f p m g).1.2 ≤ 1000000000 ∧ Sm (valPutR k f p m g).1.2) := put_sm k f p m g
  have HR : Hid ((valPutR k f p m g).2 = true → valOk f0 (valPutR k f p m g).1.1 (valPutR k f p m g).1.2 = valOk f0 k f) := fun h => by
    cases hp : putOk k f p m g with
    | false => simp [valPutR, hp] at h
    | true => simp only [valPutR, hp, if_true]; exact put_kind hp f0
  obtain ⟨R, hR⟩ : ∃ R, R = valPutR k f p m g := ⟨_, rfl⟩
  rw [← hR] at IS II SR HR
  clear hR hg hgs hpa hpx N2
  obtain ⟨⟨r1, r2⟩, ok⟩ := R
  simp only at SR HR
  have LR : Hid (∀ w' a' c' a'' c'', VA w' 0 r2 a' → VA w' 0 r2 a'' → Calls Try.prog 37 #[.agg #[.int .i64 r1, .slice a' (len r2) c'], .agg #[.int .i64 r1, .slice a'' (len r2) c'']] w' fun e w'' => e = .returned (.bool true) ∧ Ex w' w'') := fun w' a' c' a'' c'' h h' => by
    have := lhVal_any (dep r2 + 1) r1 r1 r2 r2 a' a'' c' c'' 0 0 w' (by omega) SR.out.1 SR.out.2 h h'
    rw [eqV_refl] at this; simpa using this
  obtain ⟨qa, qb, qc⟩ := CA.out w2 hb2
  have za : w1.heap.size < w2.heap.size := World.block_lt_of_cell? _ _ qa
  have zb : w1.heap.size + 1 < w2.heap.size := World.block_lt_of_cell? _ _ qb
  go_wp2_with fail
  rw [← hW2]
  clear hW2 qa qb qc
  refine Calls.mono (II.out _ (Ex.refl _)) ?_
  rintro e w3 ⟨a3, c3, rfl, hv3, hb3⟩
  obtain ⟨W3, hW3⟩ : ∃ W3, W3 = w3.alloc (.cells #[.int .i64 r1, .slice a3 (len r2) c3] 39) := ⟨_, rfl⟩
  have N3 : Ex w3 W3 := hW3 ▸ Ex.new _ _
  have Y3 : Hid (Ex W2 W3) := hb3.trans N3
  have V3 : Hid (∀ w', Ex W3 w' → VA w' 0 r2 a3) := fun _ h => VA_lo (VA_below (VS_mono hv3.vs fun _ _ hb => hb) (N3.trans h)) (Nat.zero_le _)
  have CC : Hid (∀ w', Ex W3 w' → w'.cell? ⟨w3.heap.size, 0, none⟩ = some (.int .i64 r1) ∧ w'.cell? ⟨w3.heap.size, 1, none⟩ = some (.slice a3 (len r2) c3)) := fun w' h => ⟨h.at (hW3 ▸ World.cell?_alloc_new _ _ _ _), h.at (hW3 ▸ World.cell?_alloc_new _ _ _ _)⟩
  obtain ⟨qa, qb, qc⟩ := CA.out w3 (X2.out.trans hb3)
  obtain ⟨qd, qe⟩ := CB.out w3 hb3
  have zc : w1.heap.size + 1 < w3.heap.size := World.block_lt_of_cell? _ _ qb
  have zd : w2.heap.size + 1 < w3.heap.size := World.block_lt_of_cell? _ _ qd
  clear hv3 N3
  go_wp2_with fail
  rw [← hW3]
  clear hW3 qa qb qc qd qe
  refine Calls.mono (IS.out _ Y3.out) ?_
  rintro e w4 ⟨a4, c4, rfl, hv4, hb4⟩
  obtain ⟨W4, hW4⟩ : ∃ W4, W4 = w4.alloc (.cells #[.int .i64 r1, .slice a4 (len r2) c4] 39) := ⟨_, rfl⟩
  have N4 : Ex w4 W4 := hW4 ▸ Ex.new _ _
  have Y4 : Hid (Ex W3 W4) := hb4.trans N4
  have X4 : Hid (Ex W1 W4) := X2.out.trans (Y3.out.trans Y4.out)
  have V4 : Hid (∀ w', Ex W4 w' → VA w' 0 r2 a4) := fun _ h => VA_lo (VA_below hv4 (N4.trans h)) (Nat.zero_le _)
  have CD : Hid (∀ w', Ex W4 w' → w'.cell? ⟨w4.heap.size, 0, none⟩ = some (.int .i64 r1) ∧ w'.cell? ⟨w4.heap.size, 1, none⟩ = some (.slice a4 (len r2) c4)) := fun w' h => ⟨h.at (hW4 ▸ World.cell?_alloc_new _ _ _ _), h.at (hW4 ▸ World.cell?_alloc_new _ _ _ _)⟩
  have KS : Hid (∀ w', Ex W4 w' → (Ex W4 w' ∧ w'.cell? ⟨w1.heap.size, 0, none⟩ = some (.slice a0 (len f0) c0) ∧ w'.cell? ⟨w1.heap.size + 1, 0, none⟩ = some (.int .i64 k) ∧ w'.cell? ⟨w1.heap.size + 1, 1, none⟩ = some (.slice a (len f) c) ∧ w'.cell? ⟨w3.heap.size, 0, none⟩ = some (.int .i64 r1) ∧ w'.cell? ⟨w3.heap.size, 1, none⟩ = some (.slice a3 (len r2) c3) ∧ w'.cell? ⟨w4.heap.size, 0, none⟩ = some (.int .i64 r1) ∧ w'.cell? ⟨w4.heap.size, 1, none⟩ = some (.slice a4 (len r2) c4))) := fun w' h => ⟨h, (CA.out w' (X4.out.trans h)).1, (CA.out w' (X4.out.trans h)).2.1, (CA.out w' (X4.out.trans h)).2.2, (CC.out w' (Y4.out.trans h)).1, (CC.out w' (Y4.out.trans h)).2, (CD.out w' h).1, (CD.out w' h).2⟩
  have IV : Hid (∀ w', Ex W4 w' → Calls Try.prog 32 #[.agg #[.slice a0 (len f0) c0], .agg #[.int .i64 k, .slice a (len f) c]] w' fun e w'' => e = .returned (.bool (valOk f0 k f)) ∧ Ex w' w'') := fun w' h => iValOk_any f0 k f a a0 c c0 _ _ w' (VV.out _ (X4.out.trans h)) (VT0.out _ (X4.out.trans h))
  have SV : Hid (∀ w', Ex W4 w' → Calls Try.prog 33 #[.agg #[.slice a0 (len f0) c0], .agg #[.int .i64 k, .slice a (len f) c]] w' fun e w'' => e = .returned (.bool (valOk f0 k f)) ∧ Ex w' w'') := fun w' h => sValOk_any f0 k f a a0 c c0 _ _ w' SF.out.1 SF.out.2 (VV.out _ (X4.out.trans h)) (VT0.out _ (X4.out.trans h))
  have IX : Hid (∀ w', Ex W4 w' → Calls Try.prog 32 #[.agg #[.slice a0 (len f0) c0], .agg #[.int .i64 r1, .slice a3 (len r2) c3]] w' fun e w'' => e = .returned (.bool (valOk f0 r1 r2)) ∧ Ex w' w'') := fun w' h => iValOk_any f0 r1 r2 a3 a0 c3 c0 _ _ w' (V3.out _ (Y4.out.trans h)) (VT0.out _ (X4.out.trans h))
  have LX : Hid (∀ w', Ex W4 w' → Calls Try.prog 37 #[.agg #[.int .i64 r1, .slice a3 (len r2) c3], .agg #[.int .i64 r1, .slice a4 (len r2) c4]] w' fun e w'' => e = .returned (.bool true) ∧ Ex w' w'') := fun w' h => LR.out w' a3 c3 a4 c4 (V3.out _ (Y4.out.trans h)) (V4.out _ h)
  generalize valOk f0 k f = z at *
  generalize valOk f0 r1 r2 = y at *
  obtain ⟨_, qa, qb, qc, qd, qe, qf, qg⟩ := KS.out W4 (Ex.refl _)
  clear hv4 N4 LR
  have hne : (ok != ok) = false := by cases ok <;> rfl
  have hnz : (z != z) = false := by cases z <;> rfl
  cases ok
  · go_wp2_with fail
    rw [← hW4]
    clear hW4
    go_region_held3 (fun w' => Ex W4 w' ∧ w'.cell? ⟨w1.heap.size, 0, none⟩ = some (.slice a0 (len f0) c0) ∧ w'.cell? ⟨w1.heap.size + 1, 0, none⟩ = some (.int .i64 k) ∧ w'.cell? ⟨w1.heap.size + 1, 1, none⟩ = some (.slice a (len f) c) ∧ w'.cell? ⟨w3.heap.size, 0, none⟩ = some (.int .i64 r1) ∧ w'.cell? ⟨w3.heap.size, 1, none⟩ = some (.slice a3 (len r2) c3) ∧ w'.cell? ⟨w4.heap.size, 0, none⟩ = some (.int .i64 r1) ∧ w'.cell? ⟨w4.heap.size, 1, none⟩ = some (.slice a4 (len r2) c4)) ((refine KS.out _ ?_; first | exact (Ex.refl _).drew | exact Ex.drew ‹Ex W4 _› | exact Ex.trans (And.left ‹Ex _ _ ∧ _›) ‹Ex _ _› | exact (And.left ‹Ex _ _ ∧ _›))) (first | (go_at_call 37; refine (LX.out _ (And.left ‹Ex _ _ ∧ _›)).mono ?_; rintro e w5 ⟨rfl, hb5⟩) | (go_at_call 32; refine (IV.out _ (And.left ‹Ex _ _ ∧ _›)).mono ?_; rintro e w6 ⟨rfl, hb6⟩) | (go_at_call 33; refine (SV.out _ (And.left ‹Ex _ _ ∧ _›)).mono ?_; rintro e w7 ⟨rfl, hb7⟩))
    have x7 : Ex W4 w7 := And.left ‹Ex W4 w7 ∧ _›
    go_wp2_with fail
    refine wp_region_held_drew (S := fun w' => Ex W4 w' ∧ w'.cell? ⟨w1.heap.size, 0, none⟩ = some (.slice a0 (len f0) c0) ∧ w'.cell? ⟨w1.heap.size + 1, 0, none⟩ = some (.int .i64 k) ∧ w'.cell? ⟨w1.heap.size + 1, 1, none⟩ = some (.slice a (len f) c) ∧ w'.cell? ⟨w3.heap.size, 0, none⟩ = some (.int .i64 r1) ∧ w'.cell? ⟨w3.heap.size, 1, none⟩ = some (.slice a3 (len r2) c3) ∧ w'.cell? ⟨w4.heap.size, 0, none⟩ = some (.int .i64 r1) ∧ w'.cell? ⟨w4.heap.size, 1, none⟩ = some (.slice a4 (len r2) c4)) (by kernel_rfl) (KS.out _ x7.drew) (fun hHeld => ?_)
    refine wpAnyH_take (i := 0) (v := ?_) rfl (by kernel_rfl) (by kernel_rfl) (by kernel_rfl) (fun _ _ _ h => h) (Or.inl ⟨by rfl, ?_⟩) (by assumption) ?_
    rotate_left
    · (intro w' hSw; (try dsimp only at hSw); go_simp) <;> with_reducible rfl
    change wpAnyH Try.prog _ _ _ _ _ _ (Act.put _ (some 58) _) _
    (try simp only [Act.put, List.setIfInBounds_toArray, List.set_cons_zero, List.set_cons_succ])
    refine wpAnyH_take (i := 1) (v := ?_) rfl (by kernel_rfl) (by kernel_rfl) (by kernel_rfl) (fun _ _ _ h => h) (Or.inl ⟨by rfl, ?_⟩) (by assumption) ?_
    rotate_left
    · (intro w' hSw; (try dsimp only at hSw); go_simp) <;> with_reducible rfl
    change wpAnyH Try.prog _ _ _ _ _ _ (Act.put _ (some 59) _) _
    (try simp only [Act.put, List.setIfInBounds_toArray, List.set_cons_zero, List.set_cons_succ])
    refine wpAnyH_take (i := 2) (v := ?_) rfl (by kernel_rfl) (by kernel_rfl) (by kernel_rfl) (fun _ _ _ h => h) (Or.inl ⟨by rfl, ?_⟩) (by assumption) ?_
    rotate_left
    · (intro w' hSw; (try dsimp only at hSw); go_simp) <;> with_reducible rfl
    change wpAnyH Try.prog _ _ _ _ _ _ (Act.put _ (some 60) _) _
    (try simp only [Act.put, List.setIfInBounds_toArray, List.set_cons_zero, List.set_cons_succ])
    refine wpAnyH_take (i := 3) (v := undef) rfl (by kernel_rfl) (by kernel_rfl) (by kernel_rfl) (fun _ _ _ h => h) (Or.inr ⟨by kernel_rfl, rfl⟩) (by assumption) ?_
    change wpAnyH Try.prog _ _ _ _ _ _ (Act.put _ (some 61) _) _
    (try simp only [Act.put, List.setIfInBounds_toArray, List.set_cons_zero, List.set_cons_succ])
    refine wpAnyH_take (i := 4) (v := undef) rfl (by kernel_rfl) (by kernel_rfl) (by kernel_rfl) (fun _ _ _ h => h) (Or.inr ⟨by kernel_rfl, rfl⟩) (by assumption) ?_
    change wpAnyH Try.prog _ _ _ _ _ _ (Act.put _ (some 62) _) _
    (try simp only [Act.put, List.setIfInBounds_toArray, List.set_cons_zero, List.set_cons_succ])
    refine wpAnyH_take (i := 5) (v := undef) rfl (by kernel_rfl) (by kernel_rfl) (by kernel_rfl) (fun _ _ _ h => h) (Or.inr ⟨by kernel_rfl, rfl⟩) (by assumption) ?_
    change wpAnyH Try.prog _ _ _ _ _ _ (Act.put _ (some 63) _) _
    (try simp only [Act.put, List.setIfInBounds_toArray, List.set_cons_zero, List.set_cons_succ])
    refine wpAnyH_take (i := 6) (v := undef) rfl (by kernel_rfl) (by kernel_rfl) (by kernel_rfl) (fun _ _ _ h => h) (Or.inr ⟨by kernel_rfl, rfl⟩) (by assumption) ?_
    change wpAnyH Try.prog _ _ _ _ _ _ (Act.put _ (some 64) _) _
    (try simp only [Act.put, List.setIfInBounds_toArray, List.set_cons_zero, List.set_cons_succ])
    refine wpAnyH_take (i := 7) (v := undef) rfl (by kernel_rfl) (by kernel_rfl) (by kernel_rfl) (fun _ _ _ h => h) (Or.inr ⟨by kernel_rfl, rfl⟩) (by assumption) ?_
    change wpAnyH Try.prog _ _ _ _ _ _ (Act.put _ (some 65) _) _
    (try simp only [Act.put, List.setIfInBounds_toArray, List.set_cons_zero, List.set_cons_succ])
    refine wpAnyH_take (i := 8) (v := undef) rfl (by kernel_rfl) (by kernel_rfl) (by kernel_rfl) (fun _ _ _ h => h) (Or.inr ⟨by kernel_rfl, rfl⟩) (by assumption) ?_
    change wpAnyH Try.prog _ _ _ _ _ _ (Act.put _ (some 66) _) _
    (try simp only [Act.put, List.setIfInBounds_toArray, List.set_cons_zero, List.set_cons_succ])
    refine wpAnyH_take (i := 9) (v := undef) rfl (by kernel_rfl) (by kernel_rfl) (by kernel_rfl) (fun _ _ _ h => h) (Or.inr ⟨by kernel_rfl, rfl⟩) (by assumption) ?_
    change wpAnyH Try.prog _ _ _ _ _ _ (Act.put _ (some 67) _) _
    (try simp only [Act.put, List.setIfInBounds_toArray, List.set_cons_zero, List.set_cons_succ])
    refine wpAnyH_take (i := 10) (v := ?_) rfl (by kernel_rfl) (by kernel_rfl) (by kernel_rfl) (fun _ _ _ h => h) (Or.inl ⟨by rfl, ?_⟩) (by assumption) ?_
    rotate_left
    · (intro w' hSw; (try dsimp only at hSw); go_simp) <;> with_reducible rfl
    change wpAnyH Try.prog _ _ _ _ _ _ (Act.put _ (some 68) _) _
    (try simp only [Act.put, List.setIfInBounds_toArray, List.set_cons_zero, List.set_cons_succ])
    refine wpAnyH_take (i := 11) (v := ?_) rfl (by kernel_rfl) (by kernel_rfl) (by kernel_rfl) (fun _ _ _ h => h) (Or.inl ⟨by rfl, ?_⟩) (by assumption) ?_
    rotate_left
    · (intro w' hSw; (try dsimp only at hSw); go_simp) <;> with_reducible rfl
    change wpAnyH Try.prog _ _ _ _ _ _ (Act.put _ (some 2) _) _
    (try simp only [Act.put, List.setIfInBounds_toArray, List.set_cons_zero, List.set_cons_succ])
    refine wpAnyH_done (by kernel_rfl) ?_ _
    go_wp2_with fail
    go_ret
    exact ⟨rfl, XW.out.trans (X4.out.trans (And.left hHeld))⟩
  · have hy := HR.out rfl
    subst hy
    go_wp2_with fail
    rw [← hW4]
    clear hW4
    go_region_held3 (fun w' => Ex W4 w' ∧ w'.cell? ⟨w1.heap.size, 0, none⟩ = some (.slice a0 (len f0) c0) ∧ w'.cell? ⟨w1.heap.size + 1, 0, none⟩ = some (.int .i64 k) ∧ w'.cell? ⟨w1.heap.size + 1, 1, none⟩ = some (.slice a (len f) c) ∧ w'.cell? ⟨w3.heap.size, 0, none⟩ = some (.int .i64 r1) ∧ w'.cell? ⟨w3.heap.size, 1, none⟩ = some (.slice a3 (len r2) c3) ∧ w'.cell? ⟨w4.heap.size, 0, none⟩ = some (.int .i64 r1) ∧ w'.cell? ⟨w4.heap.size, 1, none⟩ = some (.slice a4 (len r2) c4)) ((refine KS.out _ ?_; first | exact (Ex.refl _).drew | exact Ex.drew ‹Ex W4 _› | exact Ex.trans (And.left ‹Ex _ _ ∧ _›) ‹Ex _ _› | exact (And.left ‹Ex _ _ ∧ _›))) (first | (go_at_call 37; refine (LX.out _ (And.left ‹Ex _ _ ∧ _›)).mono ?_; rintro e w5 ⟨rfl, hb5⟩) | (go_at_call 32; refine (IV.out _ (And.left ‹Ex _ _ ∧ _›)).mono ?_; rintro e w6 ⟨rfl, hb6⟩) | (go_at_call 33; refine (SV.out _ (And.left ‹Ex _ _ ∧ _›)).mono ?_; rintro e w7 ⟨rfl, hb7⟩))
    have x7 : Ex W4 w7 := And.left ‹Ex W4 w7 ∧ _›
    go_wp2_with fail
    go_region_held3 (fun w' => Ex W4 w' ∧ w'.cell? ⟨w1.heap.size, 0, none⟩ = some (.slice a0 (len f0) c0) ∧ w'.cell? ⟨w1.heap.size + 1, 0, none⟩ = some (.int .i64 k) ∧ w'.cell? ⟨w1.heap.size + 1, 1, none⟩ = some (.slice a (len f) c) ∧ w'.cell? ⟨w3.heap.size, 0, none⟩ = some (.int .i64 r1) ∧ w'.cell? ⟨w3.heap.size, 1, none⟩ = some (.slice a3 (len r2) c3) ∧ w'.cell? ⟨w4.heap.size, 0, none⟩ = some (.int .i64 r1) ∧ w'.cell? ⟨w4.heap.size, 1, none⟩ = some (.slice a4 (len r2) c4)) ((refine KS.out _ ?_; first | exact (Ex.refl _).drew | exact Ex.drew ‹Ex W4 _› | exact Ex.trans (And.left ‹Ex _ _ ∧ _›) ‹Ex _ _› | exact (And.left ‹Ex _ _ ∧ _›))) (first | (go_at_call_of 32 (Value.slice a3 (len r2) c3); refine (IX.out _ (And.left ‹Ex _ _ ∧ _›)).mono ?_; rintro e w8 ⟨rfl, hb8⟩) | (go_at_call_of 32 (Value.slice a (len f) c); refine (IV.out _ (And.left ‹Ex _ _ ∧ _›)).mono ?_; rintro e w9 ⟨rfl, hb9⟩))
    have x9 : Ex W4 w9 := And.left ‹Ex W4 w9 ∧ _›
    go_wp2_with fail
    go_ret
    exact ⟨ret_b (by simp), XW.out.trans (X4.out.trans x9)⟩

end Go.Proofs.Ytomnekiiccbioaa
