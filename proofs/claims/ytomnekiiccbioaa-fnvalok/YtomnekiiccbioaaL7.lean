/- The law that a value is of one type alone, walked. -/
import Derived.Test.YtomnekiiccbioaaD7
import Derived.Test.YtomnekiiccbioaaL2
namespace Go.Proofs.Ytomnekiiccbioaa
open Go.RowKit Go.Deep
attribute [local go_sem ↓] Go.wp_at_zero Go.wp_at_succ

theorem textT_ok {f : F} (h : fits 4 f = true) : textT f = say 4 f := by simp [textT, h]

/-- Of a value of a type: of another just if that has the same text. -/
theorem valOk_text {t u g : F} {n : Int} (h : valOk t n g = true) (hu : fits 4 u = true) : valOk u n g = ((textT u).toList == (textT t).toList) := by
  unfold valOk at h ⊢
  rw [Bool.and_eq_true] at h
  obtain ⟨ht, hv⟩ := h
  cases hx : vType 4 n g with
  | none => rw [hx] at hv; cases hv
  | some v =>
    rw [hx] at hv
    have hv' : eqT t v = true := hv
    have hf := vType_fits 4 n g v hx
    show (fits 4 u && eqT u v) = _
    rw [eqS, hu, textT_ok hu, textT_ok ht, Bool.true_and, Bool.eq_iff_iff, decide_eq_true_eq, ← say_iff hu hf, (say_iff ht hf).mpr hv']

theorem valOk_not {u g : F} {n : Int} (hu : fits 4 u = false) : valOk u n g = false := by simp [valOk, hu]

set_option linter.unusedSimpArgs false in
set_option maxRecDepth 100000 in
set_option maxHeartbeats 4000000 in
theorem lawValOk (n cc m mc : Nat) (ca ma : Option Addr) (w : World) (hn : n ≤ cc) (hc : cc ≤ 9223372036854775807) (hB : By w n ca) (hm : m ≤ mc) (hmc : mc ≤ 9223372036854775807) (hM : By w m ma) :
    Calls Try.prog 6 #[.slice ca n cc, .slice ma m mc] w fun e w' => e = .returned (.bool true) ∧ Ex w w' := by
  have B : Hid (By w n ca) := hB
  have M : Hid (By w m ma) := hM
  clear hB hM
  by_cases hbig : 1048576 < n
  · have d1 : decide ((1048576 : Int) < (n : Int)) = true := by simp; omega
    go_enter Try.func6, Try.ntmps6
    go_wp2_with fail
    go_ret
    exact ⟨rfl, Ex.refl _⟩
  have d1 : decide ((1048576 : Int) < (n : Int)) = false := by simp; omega
  by_cases hbig2 : 1048576 < m
  · have d2 : decide ((1048576 : Int) < (m : Int)) = true := by simp; omega
    go_enter Try.func6, Try.ntmps6
    go_wp2_with fail
    go_ret
    exact ⟨rfl, Ex.refl _⟩
  have d2 : decide ((1048576 : Int) < (m : Int)) = false := by simp; omega
  go_enter Try.func6, Try.ntmps6
  go_wp2_with fail
  refine (DrawValOk_any n cc ca _ hn hc B.out).mono ?_
  rintro e w1 ⟨f, a, c, k, g, a', c', rfl, ht, hsm, hv, hsg, hx1⟩
  have T : Hid (∀ w', Ex w1 w' → TA w' w.heap.size f a) := fun _ h => TA_below ht h
  have V : Hid (∀ w', Ex w1 w' → VA w' w.heap.size g a') := fun _ h => VA_below hv h
  have SG : Hid (len g ≤ 1000000000 ∧ Sm g) := hsg
  clear ht hv hsm hsg
  go_wp2_with fail
  refine (DrawTypeOk_any m mc ma _ hm hmc (M.out.ex (hx1.trans ((Ex.new _ _).alloc _)))).mono ?_
  rintro e w2 ⟨u, a2, c2, rfl, ht2, hsm2, hx2⟩
  have hx2' : Ex w1 w2 := ((Ex.new _ _).alloc _).trans hx2
  have cf : w2.cell? ⟨w1.heap.size, 0, none⟩ = some (.slice a (len f) c) := Ex.at hx2 (by simp)
  have cn : w2.cell? ⟨w1.heap.size + 1, 0, none⟩ = some (.int .i64 k) := Ex.at hx2 (by simp)
  have cg : w2.cell? ⟨w1.heap.size + 1, 1, none⟩ = some (.slice a' (len g) c') := Ex.at hx2 (by simp)
  have lt1 : w1.heap.size + 1 < w2.heap.size := World.block_lt_of_cell? _ _ cn
  have lt0 : w1.heap.size < w2.heap.size := by omega
  obtain ⟨W, hW⟩ : ∃ W, W = w2.alloc (.cells #[.slice a2 (len u) c2] 25) := ⟨_, rfl⟩
  have KS : Hid (∀ w', Ex W w' → (Ex W w' ∧ w'.cell? ⟨w1.heap.size, 0, none⟩ = some (.slice a (len f) c) ∧ w'.cell? ⟨w1.heap.size + 1, 0, none⟩ = some (.int .i64 k) ∧ w'.cell? ⟨w1.heap.size + 1, 1, none⟩ = some (.slice a' (len g) c') ∧ w'.cell? ⟨w2.heap.size, 0, none⟩ = some (.slice a2 (len u) c2))) := fun w' h => ⟨h, h.at (hW ▸ (Ex.new _ _).at cf), h.at (hW ▸ (Ex.new _ _).at cn), h.at (hW ▸ (Ex.new _ _).at cg), h.at (hW ▸ World.cell?_alloc_new _ _ _ _)⟩
  have X1 : Hid (Ex w1 W) := hW ▸ (hx2'.trans (Ex.new _ _))
  have XW : Hid (Ex w W) := hx1.trans X1.out
  have U : Hid (∀ w', Ex W w' → TA w' 0 u a2) := fun w' h => TA_lo (TA_below ht2 ((Ex.new _ _).trans (hW ▸ h))) (Nat.zero_le _)
  have II : Hid (∀ w', Ex W w' → Calls Try.prog 32 #[.agg #[.slice a (len f) c], .agg #[.int .i64 k, .slice a' (len g) c']] w' fun e w'' => e = .returned (.bool (valOk f k g)) ∧ Ex w' w'') := fun w' h => iValOk_any f k g a' a c' c _ _ w' (V.out _ (X1.out.trans h)) (T.out _ (X1.out.trans h))
  have IS : Hid (∀ w', Ex W w' → Calls Try.prog 33 #[.agg #[.slice a (len f) c], .agg #[.int .i64 k, .slice a' (len g) c']] w' fun e w'' => e = .returned (.bool (valOk f k g)) ∧ Ex w' w'') := fun w' h => sValOk_any f k g a' a c' c _ _ w' SG.out.1 SG.out.2 (V.out _ (X1.out.trans h)) (T.out _ (X1.out.trans h))
  have IU : Hid (∀ w', Ex W w' → Calls Try.prog 32 #[.agg #[.slice a2 (len u) c2], .agg #[.int .i64 k, .slice a' (len g) c']] w' fun e w'' => e = .returned (.bool (valOk u k g)) ∧ Ex w' w'') := fun w' h => iValOk_any u k g a' a2 c' c2 _ _ w' (V.out _ (X1.out.trans h)) (U.out _ h)
  have IT : Hid (∀ w', Ex W w' → Calls Try.prog 26 #[.agg #[.slice a2 (len u) c2]] w' fun e w'' => e = .returned (.bool (fits 4 u)) ∧ Ex w' w'') := fun w' h => iTypeOk_any u a2 c2 _ w' (U.out _ h)
  have J1 : Hid (∀ w', Ex W w' → Calls Try.prog 29 #[.agg #[.slice a2 (len u) c2]] w' fun e w'' => e = .returned (.string (textT u)) ∧ Ex w' w'') := fun w' h => iTypeText_any u a2 c2 _ w' (U.out _ h)
  have J2 : Hid (∀ w', Ex W w' → Calls Try.prog 29 #[.agg #[.slice a (len f) c]] w' fun e w'' => e = .returned (.string (textT f)) ∧ Ex w' w'') := fun w' h => iTypeText_any f a c _ w' (T.out _ (X1.out.trans h))
  have Q1 : Hid (valOk f k g = true → fits 4 u = true → valOk u k g = ((textT u).toList == (textT f).toList)) := fun h h' => valOk_text h h'
  have Q0 : Hid (fits 4 u = false → valOk u k g = false) := fun h => valOk_not h
  generalize valOk f k g = z at *
  generalize valOk u k g = y at *
  generalize fits 4 u = x at *
  clear ht2 hsm2 hx2 hx2'
  go_wp2_with fail
  rw [← hW]
  clear hW cf cn cg
  refine (II.out _ (Ex.refl _)).mono ?_
  rintro e w3 ⟨rfl, hb3⟩
  obtain ⟨_, q1, q2, q3, q4⟩ := KS.out w3 hb3
  go_wp2_with fail
  refine (IS.out _ hb3).mono ?_
  rintro e w4 ⟨rfl, hb4⟩
  have x4 := hb3.trans hb4
  clear q1 q2 q3 q4
  obtain ⟨_, q1, q2, q3, q4⟩ := KS.out w4 x4
  cases z
  · go_wp2_with fail
    refine (IS.out _ x4).mono ?_
    rintro e w5 ⟨rfl, hb5⟩
    go_wp2_with fail
    go_ret
    exact ⟨rfl, XW.out.trans (x4.trans hb5)⟩
  · have KT : Hid (∀ w', Ex w4 w' → (Ex W w' ∧ w'.cell? ⟨w1.heap.size, 0, none⟩ = some (.slice a (len f) c) ∧ w'.cell? ⟨w1.heap.size + 1, 0, none⟩ = some (.int .i64 k) ∧ w'.cell? ⟨w1.heap.size + 1, 1, none⟩ = some (.slice a' (len g) c') ∧ w'.cell? ⟨w2.heap.size, 0, none⟩ = some (.slice a2 (len u) c2))) := fun w' h => KS.out w' (x4.trans h)
    cases x
    · have hy := Q0.out rfl
      subst hy
      go_wp2_with fail
      refine wp_region_held_drew (S := fun w' => Ex W w' ∧ w'.cell? ⟨w1.heap.size, 0, none⟩ = some (.slice a (len f) c) ∧ w'.cell? ⟨w1.heap.size + 1, 0, none⟩ = some (.int .i64 k) ∧ w'.cell? ⟨w1.heap.size + 1, 1, none⟩ = some (.slice a' (len g) c') ∧ w'.cell? ⟨w2.heap.size, 0, none⟩ = some (.slice a2 (len u) c2)) (by kernel_rfl) (KT.out _ (Ex.refl _).drew) (fun hHeld => ?_)
      refine wpAnyH_take (i := 0) (v := ?_) rfl (by kernel_rfl) (by kernel_rfl) (by kernel_rfl) (fun _ _ _ h => h) (Or.inl ⟨by rfl, ?_⟩) (by assumption) ?_
      rotate_left
      · (intro w' hSw; (try dsimp only at hSw); go_simp) <;> with_reducible rfl
      change wpAnyH Try.prog _ _ _ _ _ _ (Act.put _ (some 41) _) _
      (try simp only [Act.put, List.setIfInBounds_toArray, List.set_cons_zero, List.set_cons_succ])
      refine wpAnyH_take (i := 1) (v := ?_) rfl (by kernel_rfl) (by kernel_rfl) (by kernel_rfl) (fun _ _ _ h => h) (Or.inl ⟨by rfl, ?_⟩) (by assumption) ?_
      rotate_left
      · (intro w' hSw; (try dsimp only at hSw); go_simp) <;> with_reducible rfl
      change wpAnyH Try.prog _ _ _ _ _ _ (Act.put _ (some 42) _) _
      (try simp only [Act.put, List.setIfInBounds_toArray, List.set_cons_zero, List.set_cons_succ])
      refine wpAnyH_take (i := 3) (v := ?_) rfl (by kernel_rfl) (by kernel_rfl) (by kernel_rfl) (fun _ _ _ h => h) (Or.inl ⟨by rfl, ?_⟩) (by assumption) ?_
      rotate_left
      · (intro w' hSw; (try dsimp only at hSw); go_simp) <;> with_reducible rfl
      change wpAnyH Try.prog _ _ _ _ _ _ (Act.put _ (some 44) _) _
      (try simp only [Act.put, List.setIfInBounds_toArray, List.set_cons_zero, List.set_cons_succ])
      refine wpAnyH_ready (rs := [2]) (by kernel_rfl) (by simp) ?_
      refine AllReadyH.cons (i := 2) rfl (fun K hK => ?_) AllReadyH.nil
      go_simp
      refine (IU.out _ (And.left hHeld)).mono ?_
      rintro e w5 ⟨rfl, hb5⟩
      have hx5 := Ex.trans (And.left hHeld) hb5
      go_wp2_with fail
      refine hK.out _ _ ?_ (fun hHeld1 => ?_)
      · exact KS.out _ hx5
      clear hK hHeld
      (try simp only [Act.put, List.setIfInBounds_toArray, List.set_cons_zero, List.set_cons_succ])
      refine wpAnyH_ready (rs := [4]) (by kernel_rfl) (by simp) ?_
      refine AllReadyH.cons (i := 4) rfl (fun K hK => ?_) AllReadyH.nil
      go_simp
      refine (IT.out _ (And.left hHeld1)).mono ?_
      rintro e w6 ⟨rfl, hb6⟩
      have hx6 := Ex.trans (And.left hHeld1) hb6
      go_wp2_with fail
      refine hK.out _ _ ?_ (fun hHeld2 => ?_)
      · exact KS.out _ hx6
      clear hK hHeld1
      (try simp only [Act.put, List.setIfInBounds_toArray, List.set_cons_zero, List.set_cons_succ])
      refine wpAnyH_take (i := 5) (v := ?_) rfl (by kernel_rfl) (by kernel_rfl) (by kernel_rfl) (fun _ _ _ h => h) (Or.inl ⟨by rfl, ?_⟩) (by assumption) ?_
      rotate_left
      · (intro w' hSw; (try dsimp only at hSw); go_simp) <;> with_reducible rfl
      change wpAnyH Try.prog _ _ _ _ _ _ (Act.put _ (some 46) _) _
      (try simp only [Act.put, List.setIfInBounds_toArray, List.set_cons_zero, List.set_cons_succ])
      refine wpAnyH_take (i := 6) (v := undef) rfl (by kernel_rfl) (by kernel_rfl) (by kernel_rfl) (fun _ _ _ h => h) (Or.inr ⟨by kernel_rfl, rfl⟩) (by assumption) ?_
      change wpAnyH Try.prog _ _ _ _ _ _ (Act.put _ (some 47) _) _
      (try simp only [Act.put, List.setIfInBounds_toArray, List.set_cons_zero, List.set_cons_succ])
      refine wpAnyH_take (i := 7) (v := undef) rfl (by kernel_rfl) (by kernel_rfl) (by kernel_rfl) (fun _ _ _ h => h) (Or.inr ⟨by kernel_rfl, rfl⟩) (by assumption) ?_
      change wpAnyH Try.prog _ _ _ _ _ _ (Act.put _ (some 48) _) _
      (try simp only [Act.put, List.setIfInBounds_toArray, List.set_cons_zero, List.set_cons_succ])
      refine wpAnyH_take (i := 8) (v := undef) rfl (by kernel_rfl) (by kernel_rfl) (by kernel_rfl) (fun _ _ _ h => h) (Or.inr ⟨by kernel_rfl, rfl⟩) (by assumption) ?_
      change wpAnyH Try.prog _ _ _ _ _ _ (Act.put _ (some 49) _) _
      (try simp only [Act.put, List.setIfInBounds_toArray, List.set_cons_zero, List.set_cons_succ])
      refine wpAnyH_take (i := 9) (v := undef) rfl (by kernel_rfl) (by kernel_rfl) (by kernel_rfl) (fun _ _ _ h => h) (Or.inr ⟨by kernel_rfl, rfl⟩) (by assumption) ?_
      change wpAnyH Try.prog _ _ _ _ _ _ (Act.put _ (some 50) _) _
      (try simp only [Act.put, List.setIfInBounds_toArray, List.set_cons_zero, List.set_cons_succ])
      refine wpAnyH_take (i := 10) (v := undef) rfl (by kernel_rfl) (by kernel_rfl) (by kernel_rfl) (fun _ _ _ h => h) (Or.inr ⟨by kernel_rfl, rfl⟩) (by assumption) ?_
      change wpAnyH Try.prog _ _ _ _ _ _ (Act.put _ (some 51) _) _
      (try simp only [Act.put, List.setIfInBounds_toArray, List.set_cons_zero, List.set_cons_succ])
      refine wpAnyH_take (i := 11) (v := ?_) rfl (by kernel_rfl) (by kernel_rfl) (by kernel_rfl) (fun _ _ _ h => h) (Or.inl ⟨by rfl, ?_⟩) (by assumption) ?_
      rotate_left
      · (intro w' hSw; (try dsimp only at hSw); go_simp) <;> with_reducible rfl
      change wpAnyH Try.prog _ _ _ _ _ _ (Act.put _ (some 52) _) _
      (try simp only [Act.put, List.setIfInBounds_toArray, List.set_cons_zero, List.set_cons_succ])
      refine wpAnyH_take (i := 12) (v := ?_) rfl (by kernel_rfl) (by kernel_rfl) (by kernel_rfl) (fun _ _ _ h => h) (Or.inl ⟨by rfl, ?_⟩) (by assumption) ?_
      rotate_left
      · (intro w' hSw; (try dsimp only at hSw); go_simp) <;> with_reducible rfl
      change wpAnyH Try.prog _ _ _ _ _ _ (Act.put _ (some 53) _) _
      (try simp only [Act.put, List.setIfInBounds_toArray, List.set_cons_zero, List.set_cons_succ])
      refine wpAnyH_take (i := 13) (v := ?_) rfl (by kernel_rfl) (by kernel_rfl) (by kernel_rfl) (fun _ _ _ h => h) (Or.inl ⟨by rfl, ?_⟩) (by assumption) ?_
      rotate_left
      · (intro w' hSw; (try dsimp only at hSw); go_simp) <;> with_reducible rfl
      change wpAnyH Try.prog _ _ _ _ _ _ (Act.put _ (some 4) _) _
      (try simp only [Act.put, List.setIfInBounds_toArray, List.set_cons_zero, List.set_cons_succ])
      refine wpAnyH_done (by kernel_rfl) ?_ _
      go_wp2_with fail
      go_ret
      exact ⟨rfl, XW.out.trans hx6⟩
    · have hy := Q1.out rfl rfl
      subst hy
      go_wp2_with fail
      go_region_held3 (fun w' => Ex W w' ∧ w'.cell? ⟨w1.heap.size, 0, none⟩ = some (.slice a (len f) c) ∧ w'.cell? ⟨w1.heap.size + 1, 0, none⟩ = some (.int .i64 k) ∧ w'.cell? ⟨w1.heap.size + 1, 1, none⟩ = some (.slice a' (len g) c') ∧ w'.cell? ⟨w2.heap.size, 0, none⟩ = some (.slice a2 (len u) c2)) ((refine KS.out _ ?_; first | exact x4.drew | exact Ex.trans (And.left ‹Ex _ _ ∧ _›) ‹Ex _ _› | exact (And.left ‹Ex _ _ ∧ _›))) (first | (go_at_call 32; refine (IU.out _ (And.left ‹Ex _ _ ∧ _›)).mono ?_; rintro e w5 ⟨rfl, hb5⟩) | (go_at_call 26; refine (IT.out _ (And.left ‹Ex _ _ ∧ _›)).mono ?_; rintro e w6 ⟨rfl, hb6⟩) | (go_at_call_of 29 (Value.slice a2 (len u) c2); refine (J1.out _ (And.left ‹Ex _ _ ∧ _›)).mono ?_; rintro e w7 ⟨rfl, hb7⟩) | (go_at_call_of 29 (Value.slice a (len f) c); refine (J2.out _ (And.left ‹Ex _ _ ∧ _›)).mono ?_; rintro e w8 ⟨rfl, hb8⟩))
      go_wp2_with fail
      go_ret
      exact ⟨ret_b (by simp), XW.out.trans (And.left ‹Ex _ _ ∧ _›)⟩

end Go.Proofs.Ytomnekiiccbioaa
