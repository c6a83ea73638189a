/- Walks: the program's terms that have just what their kinds say. -/
import Derived.Test.YthdihpcpobhadaaDoorIM1

import Derived.Deep.RegionHeld3

namespace Go.Proofs.YthdihpcpobhadaaDoor

open Go.RowKit Go.Deep

attribute [local go_sem ↓] Go.wp_at_zero Go.wp_at_succ

/-- A term has just what its kind says, as the program asks it. -/
def tokB (k n : Int) (s : ByteArray) (p : List Int) (l : Nat) : Bool :=
  if k = 1 then decide (s.size = 0) && (decide (p.length = 0) && (decide (l = 0) && (decide (0 ≤ n) && decide (n ≤ 9999))))
  else if k = 2 then decide (n = 0) && (decide (p.length = 0) && decide (l = 0))
  else if k = 3 ∨ k = 4 ∨ k = 5 ∨ k = 6 then decide (n = 0) && (decide (s.size = 0) && (decide (p.length = 0) && decide (l = 2)))
  else if k = 7 then decide (n = 0) && (decide (s.size = 0) && ((decide (p.length ≤ 4) && pathB p) && decide (l = 1)))
  else if k = 8 then decide (n = 0) && (decide (s.size = 0) && ((decide (p.length ≤ 4) && pathB p) && decide (l = 2)))
  else false
theorem tokB_1 {n : Int} {s : ByteArray} {p : List Int} {l : Nat} : tokB 1 n s p l = (decide (s.size = 0) && (decide (p.length = 0) && (decide (l = 0) && (decide (0 ≤ n) && decide (n ≤ 9999))))) := rfl
theorem tokB_2 {n : Int} {s : ByteArray} {p : List Int} {l : Nat} : tokB 2 n s p l = (decide (n = 0) && (decide (p.length = 0) && decide (l = 0))) := rfl
theorem tokB_7 {n : Int} {s : ByteArray} {p : List Int} {l : Nat} : tokB 7 n s p l = (decide (n = 0) && (decide (s.size = 0) && ((decide (p.length ≤ 4) && pathB p) && decide (l = 1)))) := rfl
theorem tokB_8 {n : Int} {s : ByteArray} {p : List Int} {l : Nat} : tokB 8 n s p l = (decide (n = 0) && (decide (s.size = 0) && ((decide (p.length ≤ 4) && pathB p) && decide (l = 2)))) := rfl
theorem tokB_3 {k n : Int} {s : ByteArray} {p : List Int} {l : Nat} (h : k = 3 ∨ k = 4 ∨ k = 5 ∨ k = 6) : tokB k n s p l = (decide (n = 0) && (decide (s.size = 0) && (decide (p.length = 0) && decide (l = 2)))) := by
  unfold tokB; rw [if_neg (by omega), if_neg (by omega), if_pos h]
theorem tokB_o {k n : Int} {s : ByteArray} {p : List Int} {l : Nat} (h : ¬ (1 ≤ k ∧ k ≤ 8)) : tokB k n s p l = false := by
  unfold tokB; rw [if_neg (by omega), if_neg (by omega), if_neg (by omega), if_neg (by omega), if_neg (by omega)]

theorem dec_n (n : Int) : decide (n = 0) = (n == 0) := by
  by_cases h : n = 0
  · rw [decide_eq_true h, beq_iff_eq.mpr h]
  · rw [decide_eq_false h, beq_eq_false_iff_ne.mpr h]
theorem dec_s (s : ByteArray) : decide (s.size = 0) = s.toList.isEmpty := by
  by_cases h : s.size = 0
  · rw [decide_eq_true h, empty_size h]
  · rw [decide_eq_false h, full_size h]
theorem dec_l (l m : Nat) : decide (l = m) = ((l : Int) == (m : Int)) := by
  by_cases h : l = m
  · rw [decide_eq_true h, beq_iff_eq.mpr (by omega)]
  · rw [decide_eq_false h, beq_eq_false_iff_ne.mpr (by omega)]

set_option maxRecDepth 100000 in
set_option maxHeartbeats 4000000 in
theorem termOk_any (k n : Int) (s : ByteArray) (p : List Int) (pa : Option Addr) (pc l : Nat) (a : Option Addr) (c : Nat) (w : World) (hP : PA w 0 p pa) :
    Calls Tryd.prog 72 #[.agg #[.int .i64 k, .int .i64 n, .string s, .slice pa p.length pc, .slice a l c]] w fun e w' => e = .returned (.bool (tokB k n s p l)) ∧ Ex w w' := by
  have P : Hid (∀ w', Ex w w' → PA w' 0 p pa) := fun _ h => PA_below hP h
  have N : Hid (Ex w (w.alloc (.cells #[.int .i64 k, .int .i64 n, .string s, .slice pa p.length pc, .slice a l c] 28))) := Ex.new _ _
  have C : Hid (∀ w', Ex (w.alloc (.cells #[.int .i64 k, .int .i64 n, .string s, .slice pa p.length pc, .slice a l c] 28)) w' → w'.cell? ⟨w.heap.size, 0, none⟩ = some (.int .i64 k) ∧ w'.cell? ⟨w.heap.size, 1, none⟩ = some (.int .i64 n) ∧ w'.cell? ⟨w.heap.size, 2, none⟩ = some (.string s) ∧ w'.cell? ⟨w.heap.size, 3, none⟩ = some (.slice pa p.length pc) ∧ w'.cell? ⟨w.heap.size, 4, none⟩ = some (.slice a l c)) := fun w' h => ⟨h.at (by simp), h.at (by simp), h.at (by simp), h.at (by simp), h.at (by simp)⟩
  have KS : Hid (∀ w', Ex (w.alloc (.cells #[.int .i64 k, .int .i64 n, .string s, .slice pa p.length pc, .slice a l c] 28)) w' → (Ex (w.alloc (.cells #[.int .i64 k, .int .i64 n, .string s, .slice pa p.length pc, .slice a l c] 28)) w' ∧ w'.cell? ⟨w.heap.size, 0, none⟩ = some (.int .i64 k) ∧ w'.cell? ⟨w.heap.size, 1, none⟩ = some (.int .i64 n) ∧ w'.cell? ⟨w.heap.size, 2, none⟩ = some (.string s) ∧ w'.cell? ⟨w.heap.size, 3, none⟩ = some (.slice pa p.length pc) ∧ w'.cell? ⟨w.heap.size, 4, none⟩ = some (.slice a l c))) := fun w' h => ⟨h, C.out w' h⟩
  clear hP
  obtain ⟨R, hR⟩ : ∃ R, R = tokB k n s p l := ⟨_, rfl⟩
  have RR : Hid (R = tokB k n s p l) := hR
  rw [← hR]
  obtain ⟨bn, hbn⟩ : ∃ b, (n == 0) = b := ⟨_, rfl⟩
  obtain ⟨bs, hbs⟩ : ∃ b, s.toList.isEmpty = b := ⟨_, rfl⟩
  obtain ⟨bp, hbp⟩ : ∃ b, ((p.length : Int) == 0) = b := ⟨_, rfl⟩
  have Dn : Hid (decide (n = 0) = bn) := (dec_n n).trans hbn
  have Ds : Hid (decide (s.size = 0) = bs) := (dec_s s).trans hbs
  have Dp : Hid (decide (p.length = 0) = bp) := (dec_l p.length 0).trans hbp
  obtain ⟨bq, hbq⟩ : ∃ b, (decide (p.length ≤ 4) && pathB p) = b := ⟨_, rfl⟩
  have Dq : Hid ((decide (p.length ≤ 4) && pathB p) = bq) := hbq
  have PO : Hid (∀ w', Ex w w' → Calls Tryd.prog 81 #[.slice pa p.length pc] w' fun e w'' => e = .returned (.bool bq) ∧ Ex w' w'') := fun w' h => by have := pathOk_any p pa pc w' (P.out w' h); rw [Dq.out] at this; exact this
  clear hR hbq
  go_enter Tryd.func72, Tryd.ntmps72
  go_wp2_with fail
  refine wp_region_held_drew (S := fun w' => Ex (w.alloc (.cells #[.int .i64 k, .int .i64 n, .string s, .slice pa p.length pc, .slice a l c] 28)) w' ∧ w'.cell? ⟨w.heap.size, 0, none⟩ = some (.int .i64 k) ∧ w'.cell? ⟨w.heap.size, 1, none⟩ = some (.int .i64 n) ∧ w'.cell? ⟨w.heap.size, 2, none⟩ = some (.string s) ∧ w'.cell? ⟨w.heap.size, 3, none⟩ = some (.slice pa p.length pc) ∧ w'.cell? ⟨w.heap.size, 4, none⟩ = some (.slice a l c)) (by kernel_rfl) (KS.out _ (Ex.refl _).drew) (fun hHeld => ?_)
  refine wpAnyH_take (i := 0) (v := ?_) rfl (by kernel_rfl) (by kernel_rfl) (by kernel_rfl) (fun _ _ _ h => h) (Or.inl ⟨by rfl, ?_⟩) (by assumption) ?_
  rotate_left
  · (intro w' hSw; (try dsimp only at hSw); go_simp) <;> with_reducible rfl
  change wpAnyH Tryd.prog _ _ _ _ _ _ (Act.put _ (some 6) _) _
  (try simp only [Act.put, List.setIfInBounds_toArray, List.set_cons_zero, List.set_cons_succ])
  refine wpAnyH_take (i := 1) (v := ?_) rfl (by kernel_rfl) (by kernel_rfl) (by kernel_rfl) (fun _ _ _ h => h) (Or.inl ⟨by rfl, ?_⟩) (by assumption) ?_
  rotate_left
  · (intro w' hSw; (try dsimp only at hSw); go_simp) <;> with_reducible rfl
  change wpAnyH Tryd.prog _ _ _ _ _ _ (Act.put _ (some 7) _) _
  (try simp only [Act.put, List.setIfInBounds_toArray, List.set_cons_zero, List.set_cons_succ])
  refine wpAnyH_take (i := 2) (v := ?_) rfl (by kernel_rfl) (by kernel_rfl) (by kernel_rfl) (fun _ _ _ h => h) (Or.inl ⟨by rfl, ?_⟩) (by assumption) ?_
  rotate_left
  · (intro w' hSw; (try dsimp only at hSw); go_simp) <;> with_reducible rfl
  change wpAnyH Tryd.prog _ _ _ _ _ _ (Act.put _ (some 8) _) _
  (try simp only [Act.put, List.setIfInBounds_toArray, List.set_cons_zero, List.set_cons_succ])
  refine wpAnyH_take (i := 3) (v := ?_) rfl (by kernel_rfl) (by kernel_rfl) (by kernel_rfl) (fun _ _ _ h => h) (Or.inl ⟨by rfl, ?_⟩) (by assumption) ?_
  rotate_left
  · (intro w' hSw; (try dsimp only at hSw); go_simp) <;> with_reducible rfl
  change wpAnyH Tryd.prog _ _ _ _ _ _ (Act.put _ (some 9) _) _
  (try simp only [Act.put, List.setIfInBounds_toArray, List.set_cons_zero, List.set_cons_succ])
  refine wpAnyH_take (i := 4) (v := ?_) rfl (by kernel_rfl) (by kernel_rfl) (by kernel_rfl) (fun _ _ _ h => h) (Or.inl ⟨by rfl, ?_⟩) (by assumption) ?_
  rotate_left
  · (intro w' hSw; (try dsimp only at hSw); go_simp) <;> with_reducible rfl
  change wpAnyH Tryd.prog _ _ _ _ _ _ (Act.put _ (some 10) _) _
  (try simp only [Act.put, List.setIfInBounds_toArray, List.set_cons_zero, List.set_cons_succ])
  refine wpAnyH_take (i := 5) (v := ?_) rfl (by kernel_rfl) (by kernel_rfl) (by kernel_rfl) (fun _ _ _ h => h) (Or.inl ⟨by rfl, ?_⟩) (by assumption) ?_
  rotate_left
  · (intro w' hSw; (try dsimp only at hSw); go_simp) <;> with_reducible rfl
  change wpAnyH Tryd.prog _ _ _ _ _ _ (Act.put _ (some 11) _) _
  (try simp only [Act.put, List.setIfInBounds_toArray, List.set_cons_zero, List.set_cons_succ])
  refine wpAnyH_take (i := 6) (v := ?_) rfl (by kernel_rfl) (by kernel_rfl) (by kernel_rfl) (fun _ _ _ h => h) (Or.inl ⟨by rfl, ?_⟩) (by assumption) ?_
  rotate_left
  · (intro w' hSw; (try dsimp only at hSw); go_simp) <;> with_reducible rfl
  change wpAnyH Tryd.prog _ _ _ _ _ _ (Act.put _ (some 12) _) _
  (try simp only [Act.put, List.setIfInBounds_toArray, List.set_cons_zero, List.set_cons_succ])
  refine wpAnyH_take (i := 7) (v := ?_) rfl (by kernel_rfl) (by kernel_rfl) (by kernel_rfl) (fun _ _ _ h => h) (Or.inl ⟨by rfl, ?_⟩) (by assumption) ?_
  rotate_left
  · (intro w' hSw; (try dsimp only at hSw); go_simp) <;> with_reducible rfl
  change wpAnyH Tryd.prog _ _ _ _ _ _ (Act.put _ (some 13) _) _
  (try simp only [Act.put, List.setIfInBounds_toArray, List.set_cons_zero, List.set_cons_succ])
  refine wpAnyH_take (i := 8) (v := ?_) rfl (by kernel_rfl) (by kernel_rfl) (by kernel_rfl) (fun _ _ _ h => h) (Or.inl ⟨by rfl, ?_⟩) (by assumption) ?_
  rotate_left
  · (intro w' hSw; (try dsimp only at hSw); go_simp) <;> with_reducible rfl
  change wpAnyH Tryd.prog _ _ _ _ _ _ (Act.put _ (some 14) _) _
  (try simp only [Act.put, List.setIfInBounds_toArray, List.set_cons_zero, List.set_cons_succ])
  refine wpAnyH_take (i := 9) (v := ?_) rfl (by kernel_rfl) (by kernel_rfl) (by kernel_rfl) (fun _ _ _ h => h) (Or.inl ⟨by rfl, ?_⟩) (by assumption) ?_
  rotate_left
  · (intro w' hSw; (try dsimp only at hSw); go_simp) <;> with_reducible rfl
  change wpAnyH Tryd.prog _ _ _ _ _ _ (Act.put _ (some 15) _) _
  (try simp only [Act.put, List.setIfInBounds_toArray, List.set_cons_zero, List.set_cons_succ])
  refine wpAnyH_take (i := 10) (v := ?_) rfl (by kernel_rfl) (by kernel_rfl) (by kernel_rfl) (fun _ _ _ h => h) (Or.inl ⟨by rfl, ?_⟩) (by assumption) ?_
  rotate_left
  · (intro w' hSw; (try dsimp only at hSw); go_simp) <;> with_reducible rfl
  change wpAnyH Tryd.prog _ _ _ _ _ _ (Act.put _ (some 3) _) _
  (try simp only [Act.put, List.setIfInBounds_toArray, List.set_cons_zero, List.set_cons_succ])
  refine wpAnyH_take (i := 11) (v := ?_) rfl (by kernel_rfl) (by kernel_rfl) (by kernel_rfl) (fun _ _ _ h => h) (Or.inl ⟨by rfl, ?_⟩) (by assumption) ?_
  rotate_left
  · (intro w' hSw; (try dsimp only at hSw); go_simp) <;> with_reducible rfl
  change wpAnyH Tryd.prog _ _ _ _ _ _ (Act.put _ (some 4) _) _
  (try simp only [Act.put, List.setIfInBounds_toArray, List.set_cons_zero, List.set_cons_succ])
  refine wpAnyH_take (i := 12) (v := ?_) rfl (by kernel_rfl) (by kernel_rfl) (by kernel_rfl) (fun _ _ _ h => h) (Or.inl ⟨by rfl, ?_⟩) (by assumption) ?_
  rotate_left
  · (intro w' hSw; (try dsimp only at hSw); go_simp) <;> with_reducible rfl
  change wpAnyH Tryd.prog _ _ _ _ _ _ (Act.put _ (some 5) _) _
  (try simp only [Act.put, List.setIfInBounds_toArray, List.set_cons_zero, List.set_cons_succ])
  refine wpAnyH_done (by kernel_rfl) ?_ _

  obtain ⟨hx1, c0, c1, c2, c3, c4⟩ := hHeld
  have X1 : Hid (Ex (w.alloc (.cells #[.int .i64 k, .int .i64 n, .string s, .slice pa p.length pc, .slice a l c] 28)) _) := hx1
  clear hx1 hbn hbs hbp
  by_cases k1 : k = 1
  · subst k1
    cases bs with
    | false =>
      have HV : Hid (R = false) := RR.out.trans (by rw [tokB_1, Ds.out]; rfl)
      go_wp2_with fail
      go_ret
      exact ⟨ret_b HV.out.symm, N.out.trans X1.out⟩
    | true =>
      cases bp with
      | false =>
        have HV : Hid (R = false) := RR.out.trans (by rw [tokB_1, Ds.out, Dp.out]; rfl)
        go_wp2_with fail
        go_ret
        exact ⟨ret_b HV.out.symm, N.out.trans X1.out⟩
      | true =>
        by_cases hl : l = 0
        · have l1 : ((l : Int) == 0) = true := by rw [beq_iff_eq]; omega
          have HL : Hid (l = 0) := hl
          clear hl
          by_cases hn0 : 0 ≤ n
          · have hn01 : decide (0 ≤ n) = true := decide_eq_true hn0
            by_cases hn9 : n ≤ 9999
            · have hn91 : decide (n ≤ 9999) = true := decide_eq_true hn9
              have HV : Hid (R = true) := RR.out.trans (by rw [tokB_1, Ds.out, Dp.out, decide_eq_true HL.out, decide_eq_true hn0, decide_eq_true hn9]; rfl)
              go_wp2_with fail
              go_ret
              exact ⟨ret_b HV.out.symm, N.out.trans X1.out⟩
            · have hn91 : decide (n ≤ 9999) = false := decide_eq_false hn9
              have HV : Hid (R = false) := RR.out.trans (by rw [tokB_1, Ds.out, Dp.out, decide_eq_true HL.out, decide_eq_true hn0, decide_eq_false hn9]; rfl)
              go_wp2_with fail
              go_ret
              exact ⟨ret_b HV.out.symm, N.out.trans X1.out⟩
          · have hn01 : decide (0 ≤ n) = false := decide_eq_false hn0
            have HV : Hid (R = false) := RR.out.trans (by rw [tokB_1, Ds.out, Dp.out, decide_eq_true HL.out, decide_eq_false hn0]; rfl)
            go_wp2_with fail
            go_ret
            exact ⟨ret_b HV.out.symm, N.out.trans X1.out⟩
        · have l1 : ((l : Int) == 0) = false := by rw [beq_eq_false_iff_ne]; omega
          have HV : Hid (R = false) := RR.out.trans (by rw [tokB_1, Ds.out, Dp.out, decide_eq_false hl]; rfl)
          go_wp2_with fail
          go_ret
          exact ⟨ret_b HV.out.symm, N.out.trans X1.out⟩
  by_cases k2 : k = 2
  · subst k2
    cases bn with
    | false =>
      have HV : Hid (R = false) := RR.out.trans (by rw [tokB_2, Dn.out]; rfl)
      go_wp2_with fail
      go_ret
      exact ⟨ret_b HV.out.symm, N.out.trans X1.out⟩
    | true =>
      cases bp with
      | false =>
        have HV : Hid (R = false) := RR.out.trans (by rw [tokB_2, Dn.out, Dp.out]; rfl)
        go_wp2_with fail
        go_ret
        exact ⟨ret_b HV.out.symm, N.out.trans X1.out⟩
      | true =>
        by_cases hl : l = 0
        · have l1 : ((l : Int) == 0) = true := by rw [beq_iff_eq]; omega
          have HL : Hid (l = 0) := hl
          clear hl
          have HV : Hid (R = true) := RR.out.trans (by rw [tokB_2, Dn.out, Dp.out, decide_eq_true HL.out]; rfl)
          go_wp2_with fail
          go_ret
          exact ⟨ret_b HV.out.symm, N.out.trans X1.out⟩
        · have l1 : ((l : Int) == 0) = false := by rw [beq_eq_false_iff_ne]; omega
          have HV : Hid (R = false) := RR.out.trans (by rw [tokB_2, Dn.out, Dp.out, decide_eq_false hl]; rfl)
          go_wp2_with fail
          go_ret
          exact ⟨ret_b HV.out.symm, N.out.trans X1.out⟩
  by_cases k3 : k = 3
  · subst k3
    cases bn with
    | false =>
      have HV : Hid (R = false) := RR.out.trans (by rw [tokB_3 (by omega), Dn.out]; rfl)
      go_wp2_with fail
      go_ret
      exact ⟨ret_b HV.out.symm, N.out.trans X1.out⟩
    | true =>
      cases bs with
      | false =>
        have HV : Hid (R = false) := RR.out.trans (by rw [tokB_3 (by omega), Dn.out, Ds.out]; rfl)
        go_wp2_with fail
        go_ret
        exact ⟨ret_b HV.out.symm, N.out.trans X1.out⟩
      | true =>
        cases bp with
        | false =>
          have HV : Hid (R = false) := RR.out.trans (by rw [tokB_3 (by omega), Dn.out, Ds.out, Dp.out]; rfl)
          go_wp2_with fail
          go_ret
          exact ⟨ret_b HV.out.symm, N.out.trans X1.out⟩
        | true =>
          by_cases hl : l = 2
          · have l1 : ((l : Int) == 2) = true := by rw [beq_iff_eq]; omega
            have HL : Hid (l = 2) := hl
            clear hl
            have HV : Hid (R = true) := RR.out.trans (by rw [tokB_3 (by omega), Dn.out, Ds.out, Dp.out, decide_eq_true HL.out]; rfl)
            go_wp2_with fail
            go_ret
            exact ⟨ret_b HV.out.symm, N.out.trans X1.out⟩
          · have l1 : ((l : Int) == 2) = false := by rw [beq_eq_false_iff_ne]; omega
            have HV : Hid (R = false) := RR.out.trans (by rw [tokB_3 (by omega), Dn.out, Ds.out, Dp.out, decide_eq_false hl]; rfl)
            go_wp2_with fail
            go_ret
            exact ⟨ret_b HV.out.symm, N.out.trans X1.out⟩
  by_cases k4 : k = 4
  · subst k4
    cases bn with
    | false =>
      have HV : Hid (R = false) := RR.out.trans (by rw [tokB_3 (by omega), Dn.out]; rfl)
      go_wp2_with fail
      go_ret
      exact ⟨ret_b HV.out.symm, N.out.trans X1.out⟩
    | true =>
      cases bs with
      | false =>
        have HV : Hid (R = false) := RR.out.trans (by rw [tokB_3 (by omega), Dn.out, Ds.out]; rfl)
        go_wp2_with fail
        go_ret
        exact ⟨ret_b HV.out.symm, N.out.trans X1.out⟩
      | true =>
        cases bp with
        | false =>
          have HV : Hid (R = false) := RR.out.trans (by rw [tokB_3 (by omega), Dn.out, Ds.out, Dp.out]; rfl)
          go_wp2_with fail
          go_ret
          exact ⟨ret_b HV.out.symm, N.out.trans X1.out⟩
        | true =>
          by_cases hl : l = 2
          · have l1 : ((l : Int) == 2) = true := by rw [beq_iff_eq]; omega
            have HL : Hid (l = 2) := hl
            clear hl
            have HV : Hid (R = true) := RR.out.trans (by rw [tokB_3 (by omega), Dn.out, Ds.out, Dp.out, decide_eq_true HL.out]; rfl)
            go_wp2_with fail
            go_ret
            exact ⟨ret_b HV.out.symm, N.out.trans X1.out⟩
          · have l1 : ((l : Int) == 2) = false := by rw [beq_eq_false_iff_ne]; omega
            have HV : Hid (R = false) := RR.out.trans (by rw [tokB_3 (by omega), Dn.out, Ds.out, Dp.out, decide_eq_false hl]; rfl)
            go_wp2_with fail
            go_ret
            exact ⟨ret_b HV.out.symm, N.out.trans X1.out⟩
  by_cases k5 : k = 5
  · subst k5
    cases bn with
    | false =>
      have HV : Hid (R = false) := RR.out.trans (by rw [tokB_3 (by omega), Dn.out]; rfl)
      go_wp2_with fail
      go_ret
      exact ⟨ret_b HV.out.symm, N.out.trans X1.out⟩
    | true =>
      cases bs with
      | false =>
        have HV : Hid (R = false) := RR.out.trans (by rw [tokB_3 (by omega), Dn.out, Ds.out]; rfl)
        go_wp2_with fail
        go_ret
        exact ⟨ret_b HV.out.symm, N.out.trans X1.out⟩
      | true =>
        cases bp with
        | false =>
          have HV : Hid (R = false) := RR.out.trans (by rw [tokB_3 (by omega), Dn.out, Ds.out, Dp.out]; rfl)
          go_wp2_with fail
          go_ret
          exact ⟨ret_b HV.out.symm, N.out.trans X1.out⟩
        | true =>
          by_cases hl : l = 2
          · have l1 : ((l : Int) == 2) = true := by rw [beq_iff_eq]; omega
            have HL : Hid (l = 2) := hl
            clear hl
            have HV : Hid (R = true) := RR.out.trans (by rw [tokB_3 (by omega), Dn.out, Ds.out, Dp.out, decide_eq_true HL.out]; rfl)
            go_wp2_with fail
            go_ret
            exact ⟨ret_b HV.out.symm, N.out.trans X1.out⟩
          · have l1 : ((l : Int) == 2) = false := by rw [beq_eq_false_iff_ne]; omega
            have HV : Hid (R = false) := RR.out.trans (by rw [tokB_3 (by omega), Dn.out, Ds.out, Dp.out, decide_eq_false hl]; rfl)
            go_wp2_with fail
            go_ret
            exact ⟨ret_b HV.out.symm, N.out.trans X1.out⟩
  by_cases k6 : k = 6
  · subst k6
    cases bn with
    | false =>
      have HV : Hid (R = false) := RR.out.trans (by rw [tokB_3 (by omega), Dn.out]; rfl)
      go_wp2_with fail
      go_ret
      exact ⟨ret_b HV.out.symm, N.out.trans X1.out⟩
    | true =>
      cases bs with
      | false =>
        have HV : Hid (R = false) := RR.out.trans (by rw [tokB_3 (by omega), Dn.out, Ds.out]; rfl)
        go_wp2_with fail
        go_ret
        exact ⟨ret_b HV.out.symm, N.out.trans X1.out⟩
      | true =>
        cases bp with
        | false =>
          have HV : Hid (R = false) := RR.out.trans (by rw [tokB_3 (by omega), Dn.out, Ds.out, Dp.out]; rfl)
          go_wp2_with fail
          go_ret
          exact ⟨ret_b HV.out.symm, N.out.trans X1.out⟩
        | true =>
          by_cases hl : l = 2
          · have l1 : ((l : Int) == 2) = true := by rw [beq_iff_eq]; omega
            have HL : Hid (l = 2) := hl
            clear hl
            have HV : Hid (R = true) := RR.out.trans (by rw [tokB_3 (by omega), Dn.out, Ds.out, Dp.out, decide_eq_true HL.out]; rfl)
            go_wp2_with fail
            go_ret
            exact ⟨ret_b HV.out.symm, N.out.trans X1.out⟩
          · have l1 : ((l : Int) == 2) = false := by rw [beq_eq_false_iff_ne]; omega
            have HV : Hid (R = false) := RR.out.trans (by rw [tokB_3 (by omega), Dn.out, Ds.out, Dp.out, decide_eq_false hl]; rfl)
            go_wp2_with fail
            go_ret
            exact ⟨ret_b HV.out.symm, N.out.trans X1.out⟩
  by_cases k7 : k = 7
  · subst k7
    cases bn with
    | false =>
      have HV : Hid (R = false) := RR.out.trans (by rw [tokB_7, Dn.out]; rfl)
      go_wp2_with fail
      go_ret
      exact ⟨ret_b HV.out.symm, N.out.trans X1.out⟩
    | true =>
      cases bs with
      | false =>
        have HV : Hid (R = false) := RR.out.trans (by rw [tokB_7, Dn.out, Ds.out]; rfl)
        go_wp2_with fail
        go_ret
        exact ⟨ret_b HV.out.symm, N.out.trans X1.out⟩
      | true =>
        go_wp2_with fail
        refine (PO.out _ (N.out.trans X1.out)).mono ?_
        rintro e w2 ⟨rfl, hb2⟩
        clear c0 c1 c2 c3 c4
        obtain ⟨c0, c1, c2, c3, c4⟩ := C.out w2 (X1.out.trans hb2)
        cases bq with
        | false =>
          have HV : Hid (R = false) := RR.out.trans (by rw [tokB_7, Dn.out, Ds.out, Dq.out]; rfl)
          go_wp2_with fail
          go_ret
          exact ⟨ret_b HV.out.symm, N.out.trans (X1.out.trans hb2)⟩
        | true =>
          by_cases hl : l = 1
          · have l1 : ((l : Int) == 1) = true := by rw [beq_iff_eq]; omega
            have HL : Hid (l = 1) := hl
            clear hl
            have HV : Hid (R = true) := RR.out.trans (by rw [tokB_7, Dn.out, Ds.out, Dq.out, decide_eq_true HL.out]; rfl)
            go_wp2_with fail
            go_ret
            exact ⟨ret_b HV.out.symm, N.out.trans (X1.out.trans hb2)⟩
          · have l1 : ((l : Int) == 1) = false := by rw [beq_eq_false_iff_ne]; omega
            have HV : Hid (R = false) := RR.out.trans (by rw [tokB_7, Dn.out, Ds.out, Dq.out, decide_eq_false hl]; rfl)
            go_wp2_with fail
            go_ret
            exact ⟨ret_b HV.out.symm, N.out.trans (X1.out.trans hb2)⟩
  by_cases k8 : k = 8
  · subst k8
    cases bn with
    | false =>
      have HV : Hid (R = false) := RR.out.trans (by rw [tokB_8, Dn.out]; rfl)
      go_wp2_with fail
      go_ret
      exact ⟨ret_b HV.out.symm, N.out.trans X1.out⟩
    | true =>
      cases bs with
      | false =>
        have HV : Hid (R = false) := RR.out.trans (by rw [tokB_8, Dn.out, Ds.out]; rfl)
        go_wp2_with fail
        go_ret
        exact ⟨ret_b HV.out.symm, N.out.trans X1.out⟩
      | true =>
        go_wp2_with fail
        refine (PO.out _ (N.out.trans X1.out)).mono ?_
        rintro e w2 ⟨rfl, hb2⟩
        clear c0 c1 c2 c3 c4
        obtain ⟨c0, c1, c2, c3, c4⟩ := C.out w2 (X1.out.trans hb2)
        cases bq with
        | false =>
          have HV : Hid (R = false) := RR.out.trans (by rw [tokB_8, Dn.out, Ds.out, Dq.out]; rfl)
          go_wp2_with fail
          go_ret
          exact ⟨ret_b HV.out.symm, N.out.trans (X1.out.trans hb2)⟩
        | true =>
          by_cases hl : l = 2
          · have l1 : ((l : Int) == 2) = true := by rw [beq_iff_eq]; omega
            have HL : Hid (l = 2) := hl
            clear hl
            have HV : Hid (R = true) := RR.out.trans (by rw [tokB_8, Dn.out, Ds.out, Dq.out, decide_eq_true HL.out]; rfl)
            go_wp2_with fail
            go_ret
            exact ⟨ret_b HV.out.symm, N.out.trans (X1.out.trans hb2)⟩
          · have l1 : ((l : Int) == 2) = false := by rw [beq_eq_false_iff_ne]; omega
            have HV : Hid (R = false) := RR.out.trans (by rw [tokB_8, Dn.out, Ds.out, Dq.out, decide_eq_false hl]; rfl)
            go_wp2_with fail
            go_ret
            exact ⟨ret_b HV.out.symm, N.out.trans (X1.out.trans hb2)⟩
  have q1 : (k == 1) = false := by rw [beq_eq_false_iff_ne]; exact k1
  have q2 : (k == 2) = false := by rw [beq_eq_false_iff_ne]; exact k2
  have q3 : (k == 3) = false := by rw [beq_eq_false_iff_ne]; exact k3
  have q4 : (k == 4) = false := by rw [beq_eq_false_iff_ne]; exact k4
  have q5 : (k == 5) = false := by rw [beq_eq_false_iff_ne]; exact k5
  have q6 : (k == 6) = false := by rw [beq_eq_false_iff_ne]; exact k6
  have q7 : (k == 7) = false := by rw [beq_eq_false_iff_ne]; exact k7
  have q8 : (k == 8) = false := by rw [beq_eq_false_iff_ne]; exact k8
  have HV : Hid (R = false) := RR.out.trans (tokB_o (by omega))
  go_wp2_with fail
  go_ret
  exact ⟨ret_b HV.out.symm, N.out.trans X1.out⟩

end Go.Proofs.YthdihpcpobhadaaDoor
