/- Walks: the program's terms that have just what their kinds say. Walks: names counted in a map. Walks: texts and terms counted by the exact laws. Walks: names bound, and names that may be bound together. -/
import Derived.Test.YtldbmlojgakieaaGreatDoorGIM1
import Derived.Deep.RegionHeld3
import Derived.Test.YtldbmlojgakieaaGreatDoorGW5
import Derived.Maps.Own
import Derived.Maps.OwnOps
import Derived.Maps.OwnSet
namespace Go.Proofs.YtldbmlojgakieaaGreatDoor

open Go.RowKit Go.Deep

attribute [local go_sem ↓] Go.wp_at_zero Go.wp_at_succ

/-- A term has just what its kind says, as the program asks it. -/
def tokB (k n : Int) (s : ByteArray) (p : List Int) (l : Nat) : Bool :=
  if k = 1 then decide (s.size = 0) && (decide (p.length = 0) && (decide (l = 0) && (decide (0 ≤ n) && decide (n ≤ 9999))))
  else if k = 2 then decide (n = 0) && (decide (p.length = 0) && decide (l = 0))
  else if k = 3 ∨ k = 4 ∨ k = 5 ∨ k = 6 then decide (n = 0) && (decide (s.size = 0) && (decide (p.length = 0) && decide (l = 2)))
  else if k = 7 then decide (n = 0) && (decide (s.size = 0) && ((decide (p.length ≤ 4) && pathB p) && decide (l = 1)))
  else if k = 8 then decide (n = 0) && (decide (s.size = 0) && ((decide (p.length ≤ 4) && pathB p) && decide (l = 2)))
  else false
theorem tokB_1 {n : Int} {s : ByteArray} {p : List Int} {l : Nat} : tokB 1 n s p l = (decide (s.size = 0) && (decide (p.length = 0) && (decide (l = 0) && (decide (0 ≤ n) && decide (n ≤ 9999))))) := rfl
theorem tokB_2 {n : Int} {s : ByteArray} {p : List Int} {l : Nat} : tokB 2 n s p l = (decide (n = 0) && (decide (p.length = 0) && decide (l = 0))) := rfl
theorem tokB_7 {n : Int} {s : ByteArray} {p : List Int} {l : Nat} : tokB 7 n s p l = (decide (n = 0) && (decide (s.size = 0) && ((decide (p.length ≤ 4) && pathB p) && decide (l = 1)))) := rfl
theorem tokB_8 {n : Int} {s : ByteArray} {p : List Int} {l : Nat} : tokB 8 n s p l = (decide (n = 0) && (decide (s.size = 0) && ((decide (p.length ≤ 4) && pathB p) && decide (l = 2)))) := rfl
theorem tokB_3 {k n : Int} {s : ByteArray} {p : List Int} {l : Nat} (h : k = 3 ∨ k = 4 ∨ k = 5 ∨ k = 6) : tokB k n s p l = (decide (n = 0) && (decide (s.size = 0) && (decide (p.length = 0) && decide (l = 2)))) := by
  unfold tokB; rw [if_neg (by omega), if_neg (by omega), if_pos h]
theorem tokB_o {k n : Int} {s : ByteArray} {p : List Int} {l : Nat} (h : ¬ (1 ≤ k ∧ k ≤ 8)) : tokB k n s p l = false := by
  unfold tokB; rw [if_neg (by omega), if_neg (by omega), if_neg (by omega), if_neg (by omega), if_neg (by omega)]

theorem dec_n (n : Int) : decide (n = 0) = (n == 0) := by
  by_cases h : n = 0
  · rw [decide_eq_true h, beq_iff_eq.mpr h]
  · rw [decide_eq_false h, beq_eq_false_iff_ne.mpr h]
theorem dec_s (s : ByteArray) : decide (s.size = 0) = s.toList.isEmpty := by
  by_cases h : s.size = 0
  · rw [decide_eq_true h, empty_size h]
  · rw [decide_eq_false h, full_size h]
theorem dec_l (l m : Nat) : decide (l = m) = ((l : Int) == (m : Int)) := by
  by_cases h : l = m
  · rw [decide_eq_true h, beq_iff_eq.mpr (by omega)]
  · rw [decide_eq_false h, beq_eq_false_iff_ne.mpr (by omega)]

set_option maxRecDepth 100000 in
set_option maxHeartbeats 4000000 in
theorem termOk_any (k n : Int) (s : ByteArray) (p : List Int) (pa : Option Addr) (pc l : Nat) (a : Option Addr) (c : Nat) (w : World) (hP : PA w 0 p pa) :
    Calls Tryz.prog 140 #[.agg #[.int .i64 k, .int .i64 n, .string s, .slice pa p.length pc, .slice a l c]] w fun e w' => e = .returned (.bool (tokB k n s p l)) ∧ Ex w w' := by
  have P : Hid (∀ w', Ex w w' → PA w' 0 p pa) := fun _ h => PA_below hP h
  have N : Hid (Ex w (w.alloc (.cells #[.int .i64 k, .int .i64 n, .string s, .slice pa p.length pc, .slice a l c] 121))) := Ex.new _ _
  have C : Hid (∀ w', Ex (w.alloc (.cells #[.int .i64 k, .int .i64 n, .string s, .slice pa p.length pc, .slice a l c] 121)) w' → w'.cell? ⟨w.heap.size, 0, none⟩ = some (.int .i64 k) ∧ w'.cell? ⟨w.heap.size, 1, none⟩ = some (.int .i64 n) ∧ w'.cell? ⟨w.heap.size, 2, none⟩ = some (.string s) ∧ w'.cell? ⟨w.heap.size, 3, none⟩ = some (.slice pa p.length pc) ∧ w'.cell? ⟨w.heap.size, 4, none⟩ = some (.slice a l c)) := fun w' h => ⟨h.at (by simp), h.at (by simp), h.at (by simp), h.at (by simp), h.at (by simp)⟩
  have KS : Hid (∀ w', Ex (w.alloc (.cells #[.int .i64 k, .int .i64 n, .string s, .slice pa p.length pc, .slice a l c] 121)) w' → (Ex (w.alloc (.cells #[.int .i64 k, .int .i64 n, .string s, .slice pa p.length pc, .slice a l c] 121)) w' ∧ w'.cell? ⟨w.heap.size, 0, none⟩ = some (.int .i64 k) ∧ w'.cell? ⟨w.heap.size, 1, none⟩ = some (.int .i64 n) ∧ w'.cell? ⟨w.heap.size, 2, none⟩ = some (.string s) ∧ w'.cell? ⟨w.heap.size, 3, none⟩ = some (.slice pa p.length pc) ∧ w'.cell? ⟨w.heap.size, 4, none⟩ = some (.slice a l c))) := fun w' h => ⟨h, C.out w' h⟩
  clear hP
  obtain ⟨R, hR⟩ : ∃ R, R = tokB k n s p l := ⟨_, rfl⟩
  have RR : Hid (R = tokB k n s p l) := hR
  rw [← hR]
  obtain ⟨bn, hbn⟩ : ∃ b, (n == 0) = b := ⟨_, rfl⟩
  obtain ⟨bs, hbs⟩ : ∃ b, s.toList.isEmpty = b := ⟨_, rfl⟩
  obtain ⟨bp, hbp⟩ : ∃ b, ((p.length : Int) == 0) = b := ⟨_, rfl⟩
  have Dn : Hid (decide (n = 0) = bn) := (dec_n n).trans hbn
  have Ds : Hid (decide (s.size = 0) = bs) := (dec_s s).trans hbs
  have Dp : Hid (decide (p.length = 0) = bp) := (dec_l p.length 0).trans hbp
  obtain ⟨bq, hbq⟩ : ∃ b, (decide (p.length ≤ 4) && pathB p) = b := ⟨_, rfl⟩
  have Dq : Hid ((decide (p.length ≤ 4) && pathB p) = bq) := hbq
  have PO : Hid (∀ w', Ex w w' → Calls Tryz.prog 149 #[.slice pa p.length pc] w' fun e w'' => e = .returned (.bool bq) ∧ Ex w' w'') := fun w' h => by have := pathOk_any p pa pc w' (P.out w' h); rw [Dq.out] at this; exact this
  clear hR hbq
  go_enter Tryz.func140, Tryz.ntmps140
  go_wp2_with fail
  refine wp_region_held_drew (S := fun w' => Ex (w.alloc (.cells #[.int .i64 k, .int .i64 n, .string s, .slice pa p.length pc, .slice a l c] 121)) w' ∧ w'.cell? ⟨w.heap.size, 0, none⟩ = some (.int .i64 k) ∧ w'.cell? ⟨w.heap.size, 1, none⟩ = some (.int .i64 n) ∧ w'.cell? ⟨w.heap.size, 2, none⟩ = some (.string s) ∧ w'.cell? ⟨w.heap.size, 3, none⟩ = some (.slice pa p.length pc) ∧ w'.cell? ⟨w.heap.size, 4, none⟩ = some (.slice a l c)) (by kernel_rfl) (KS.out _ (Ex.refl _).drew) (fun hHeld => ?_)
  refine wpAnyH_take (i := 0) (v := ?_) rfl (by kernel_rfl) (by kernel_rfl) (by kernel_rfl) (fun _ _ _ h => h) (Or.inl ⟨by rfl, ?_⟩) (by assumption) ?_
  rotate_left
  · (intro w' hSw; (try dsimp only at hSw); go_simp) <;> with_reducible rfl
  change wpAnyH Tryz.prog _ _ _ _ _ _ (Act.put _ (some 6) _) _
  (try simp only [Act.put, List.setIfInBounds_toArray, List.set_cons_zero, List.set_cons_succ])
  refine wpAnyH_take (i := 1) (v := ?_) rfl (by kernel_rfl) (by kernel_rfl) (by kernel_rfl) (fun _ _ _ h => h) (Or.inl ⟨by rfl, ?_⟩) (by assumption) ?_
  rotate_left
  · (intro w' hSw; (try dsimp only at hSw); go_simp) <;> with_reducible rfl
  change wpAnyH Tryz.prog _ _ _ _ _ _ (Act.put _ (some 7) _) _
  (try simp only [Act.put, List.setIfInBounds_toArray, List.set_cons_zero, List.set_cons_succ])
  refine wpAnyH_take (i := 2) (v := ?_) rfl (by kernel_rfl) (by kernel_rfl) (by kernel_rfl) (fun _ _ _ h => h) (Or.inl ⟨by rfl, ?_⟩) (by assumption) ?_
  rotate_left
  · (intro w' hSw; (try dsimp only at hSw); go_simp) <;> with_reducible rfl
  change wpAnyH Tryz.prog _ _ _ _ _ _ (Act.put _ (some 8) _) _
  (try simp only [Act.put, List.setIfInBounds_toArray, List.set_cons_zero, List.set_cons_succ])
  refine wpAnyH_take (i := 3) (v := ?_) rfl (by kernel_rfl) (by kernel_rfl) (by kernel_rfl) (fun _ _ _ h => h) (Or.inl ⟨by rfl, ?_⟩) (by assumption) ?_
  rotate_left
  · (intro w' hSw; (try dsimp only at hSw); go_simp) <;> with_reducible rfl
  change wpAnyH Tryz.prog _ _ _ _ _ _ (Act.put _ (some 9) _) _
  (try simp only [Act.put, List.setIfInBounds_toArray, List.set_cons_zero, List.set_cons_succ])
  refine wpAnyH_take (i := 4) (v := ?_) rfl (by kernel_rfl) (by kernel_rfl) (by kernel_rfl) (fun _ _ _ h => h) (Or.inl ⟨by rfl, ?_⟩) (by assumption) ?_
  rotate_left
  · (intro w' hSw; (try dsimp only at hSw); go_simp) <;> with_reducible rfl
  change wpAnyH Tryz.prog _ _ _ _ _ _ (Act.put _ (some 10) _) _
  (try simp only [Act.put, List.setIfInBounds_toArray, List.set_cons_zero, List.set_cons_succ])
  refine wpAnyH_take (i := 5) (v := ?_) rfl (by kernel_rfl) (by kernel_rfl) (by kernel_rfl) (fun _ _ _ h => h) (Or.inl ⟨by rfl, ?_⟩) (by assumption) ?_
  rotate_left
  · (intro w' hSw; (try dsimp only at hSw); go_simp) <;> with_reducible rfl
  change wpAnyH Tryz.prog _ _ _ _ _ _ (Act.put _ (some 11) _) _
  (try simp only [Act.put, List.setIfInBounds_toArray, List.set_cons_zero, List.set_cons_succ])
  refine wpAnyH_take (i := 6) (v := ?_) rfl (by kernel_rfl) (by kernel_rfl) (by kernel_rfl) (fun _ _ _ h => h) (Or.inl ⟨by rfl, ?_⟩) (by assumption) ?_
  rotate_left
  · (intro w' hSw; (try dsimp only at hSw); go_simp) <;> with_reducible rfl
  change wpAnyH Tryz.prog _ _ _ _ _ _ (Act.put _ (some 12) _) _
  (try simp only [Act.put, List.setIfInBounds_toArray, List.set_cons_zero, List.set_cons_succ])
  refine wpAnyH_take (i := 7) (v := ?_) rfl (by kernel_rfl) (by kernel_rfl) (by kernel_rfl) (fun _ _ _ h => h) (Or.inl ⟨by rfl, ?_⟩) (by assumption) ?_
  rotate_left
  · (intro w' hSw; (try dsimp only at hSw); go_simp) <;> with_reducible rfl
  change wpAnyH Tryz.prog _ _ _ _ _ _ (Act.put _ (some 13) _) _
  (try simp only [Act.put, List.setIfInBounds_toArray, List.set_cons_zero, List.set_cons_succ])
  refine wpAnyH_take (i := 8) (v := ?_) rfl (by kernel_rfl) (by kernel_rfl) (by kernel_rfl) (fun _ _ _ h => h) (Or.inl ⟨by rfl, ?_⟩) (by assumption) ?_
  rotate_left
  · (intro w' hSw; (try dsimp only at hSw); go_simp) <;> with_reducible rfl
  change wpAnyH Tryz.prog _ _ _ _ _ _ (Act.put _ (some 14) _) _
  (try simp only [Act.put, List.setIfInBounds_toArray, List.set_cons_zero, List.set_cons_succ])
  refine wpAnyH_take (i := 9) (v := ?_) rfl (by kernel_rfl) (by kernel_rfl) (by kernel_rfl) (fun _ _ _ h => h) (Or.inl ⟨by rfl, ?_⟩) (by assumption) ?_
  rotate_left
  · (intro w' hSw; (try dsimp only at hSw); go_simp) <;> with_reducible rfl
  change wpAnyH Tryz.prog _ _ _ _ _ _ (Act.put _ (some 15) _) _
  (try simp only [Act.put, List.setIfInBounds_toArray, List.set_cons_zero, List.set_cons_succ])
  refine wpAnyH_take (i := 10) (v := ?_) rfl (by kernel_rfl) (by kernel_rfl) (by kernel_rfl) (fun _ _ _ h => h) (Or.inl ⟨by rfl, ?_⟩) (by assumption) ?_
  rotate_left
  · (intro w' hSw; (try dsimp only at hSw); go_simp) <;> with_reducible rfl
  change wpAnyH Tryz.prog _ _ _ _ _ _ (Act.put _ (some 3) _) _
  (try simp only [Act.put, List.setIfInBounds_toArray, List.set_cons_zero, List.set_cons_succ])
  refine wpAnyH_take (i := 11) (v := ?_) rfl (by kernel_rfl) (by kernel_rfl) (by kernel_rfl) (fun _ _ _ h => h) (Or.inl ⟨by rfl, ?_⟩) (by assumption) ?_
  rotate_left
  · (intro w' hSw; (try dsimp only at hSw); go_simp) <;> with_reducible rfl
  change wpAnyH Tryz.prog _ _ _ _ _ _ (Act.put _ (some 4) _) _
  (try simp only [Act.put, List.setIfInBounds_toArray, List.set_cons_zero, List.set_cons_succ])
  refine wpAnyH_take (i := 12) (v := ?_) rfl (by kernel_rfl) (by kernel_rfl) (by kernel_rfl) (fun _ _ _ h => h) (Or.inl ⟨by rfl, ?_⟩) (by assumption) ?_
  rotate_left
  · (intro w' hSw; (try dsimp only at hSw); go_simp) <;> with_reducible rfl
  change wpAnyH Tryz.prog _ _ _ _ _ _ (Act.put _ (some 5) _) _
  (try simp only [Act.put, List.setIfInBounds_toArray, List.set_cons_zero, List.set_cons_succ])
  refine wpAnyH_done (by kernel_rfl) ?_ _

  obtain ⟨hx1, c0, c1, c2, c3, c4⟩ := hHeld
  have X1 : Hid (Ex (w.alloc (.cells #[.int .i64 k, .int .i64 n, .string s, .slice pa p.length pc, .slice a l c] 121)) _) := hx1
  clear hx1 hbn hbs hbp
  by_cases k1 : k = 1
  · subst k1
    cases bs with
    | false =>
      have HV : Hid (R = false) := RR.out.trans (by rw [tokB_1, Ds.out]; rfl)
      go_wp2_with fail
      go_ret
      exact ⟨ret_b HV.out.symm, N.out.trans X1.out⟩
    | true =>
      cases bp with
      | false =>
        have HV : Hid (R = false) := RR.out.trans (by rw [tokB_1, Ds.out, Dp.out]; rfl)
        go_wp2_with fail
        go_ret
        exact ⟨ret_b HV.out.symm, N.out.trans X1.out⟩
      | true =>
        by_cases hl : l = 0
        · have l1 : ((l : Int) == 0) = true := by rw [beq_iff_eq]; omega
          have HL : Hid (l = 0) := hl
          clear hl
          by_cases hn0 : 0 ≤ n
          · have hn01 : decide (0 ≤ n) = true := decide_eq_true hn0
            by_cases hn9 : n ≤ 9999
            · have hn91 : decide (n ≤ 9999) = true := decide_eq_true hn9
              have HV : Hid (R = true) := RR.out.trans (by rw [tokB_1, Ds.out, Dp.out, decide_eq_true HL.out, decide_eq_true hn0, decide_eq_true hn9]; rfl)
              go_wp2_with fail
              go_ret
              exact ⟨ret_b HV.out.symm, N.out.trans X1.out⟩
            · have hn91 : decide (n ≤ 9999) = false := decide_eq_false hn9
              have HV : Hid (R = false) := RR.out.trans (by rw [tokB_1, Ds.out, Dp.out, decide_eq_true HL.out, decide_eq_true hn0, decide_eq_false hn9]; rfl)
              go_wp2_with fail
              go_ret
              exact ⟨ret_b HV.out.symm, N.out.trans X1.out⟩
          · have hn01 : decide (0 ≤ n) = false := decide_eq_false hn0
            have HV : Hid (R = false) := RR.out.trans (by rw [tokB_1, Ds.out, Dp.out, decide_eq_true HL.out, decide_eq_false hn0]; rfl)
            go_wp2_with fail
            go_ret
            exact ⟨ret_b HV.out.symm, N.out.trans X1.out⟩
        · have l1 : ((l : Int) == 0) = false := by rw [beq_eq_false_iff_ne]; omega
          have HV : Hid (R = false) := RR.out.trans (by rw [tokB_1, Ds.out, Dp.out, decide_eq_false hl]; rfl)
          go_wp2_with fail
          go_ret
          exact ⟨ret_b HV.out.symm, N.out.trans X1.out⟩
  by_cases k2 : k = 2
  · subst k2
    cases bn with
    | false =>
      have HV : Hid (R = false) := RR.out.trans (by rw [tokB_2, Dn.out]; rfl)
      go_wp2_with fail
      go_ret
      exact ⟨ret_b HV.out.symm, N.out.trans X1.out⟩
    | true =>
      cases bp with
      | false =>
        have HV : Hid (R = false) := RR.out.trans (by rw [tokB_2, Dn.out, Dp.out]; rfl)
        go_wp2_with fail
        go_ret
        exact ⟨ret_b HV.out.symm, N.out.trans X1.out⟩
      | true =>
        by_cases hl : l = 0
        · have l1 : ((l : Int) == 0) = true := by rw [beq_iff_eq]; omega
          have HL : Hid (l = 0) := hl
          clear hl
          have HV : Hid (R = true) := RR.out.trans (by rw [tokB_2, Dn.out, Dp.out, decide_eq_true HL.out]; rfl)
          go_wp2_with fail
          go_ret
          exact ⟨ret_b HV.out.symm, N.out.trans X1.out⟩
        · have l1 : ((l : Int) == 0) = false := by rw [beq_eq_false_iff_ne]; omega
          have HV : Hid (R = false) := RR.out.trans (by rw [tokB_2, Dn.out, Dp.out, decide_eq_false hl]; rfl)
          go_wp2_with fail
          go_ret
          exact ⟨ret_b HV.out.symm, N.out.trans X1.out⟩
  by_cases k3 : k = 3
  · subst k3
    cases bn with
    | false =>
      have HV : Hid (R = false) := RR.out.trans (by rw [tokB_3 (by omega), Dn.out]; rfl)
      go_wp2_with fail
      go_ret
      exact ⟨ret_b HV.out.symm, N.out.trans X1.out⟩
    | true =>
      cases bs with
      | false =>
        have HV : Hid (R = false) := RR.out.trans (by rw [tokB_3 (by omega), Dn.out, Ds.out]; rfl)
        go_wp2_with fail
        go_ret
        exact ⟨ret_b HV.out.symm, N.out.trans X1.out⟩
      | true =>
        cases bp with
        | false =>
          have HV : Hid (R = false) := RR.out.trans (by rw [tokB_3 (by omega), Dn.out, Ds.out, Dp.out]; rfl)
          go_wp2_with fail
          go_ret
          exact ⟨ret_b HV.out.symm, N.out.trans X1.out⟩
        | true =>
          by_cases hl : l = 2
          · have l1 : ((l : Int) == 2) = true := by rw [beq_iff_eq]; omega
            have HL : Hid (l = 2) := hl
            clear hl
            have HV : Hid (R = true) := RR.out.trans (by rw [tokB_3 (by omega), Dn.out, Ds.out, Dp.out, decide_eq_true HL.out]; rfl)
            go_wp2_with fail
            go_ret
            exact ⟨ret_b HV.out.symm, N.out.trans X1.out⟩
          · have l1 : ((l : Int) == 2) = false := by rw [beq_eq_false_iff_ne]; omega
            have HV : Hid (R = false) := RR.out.trans (by rw [tokB_3 (by omega), Dn.out, Ds.out, Dp.out, decide_eq_false hl]; rfl)
            go_wp2_with fail
            go_ret
            exact ⟨ret_b HV.out.symm, N.out.trans X1.out⟩
  by_cases k4 : k = 4
  · subst k4
    cases bn with
    | false =>
      have HV : Hid (R = false) := RR.out.trans (by rw [tokB_3 (by omega), Dn.out]; rfl)
      go_wp2_with fail
      go_ret
      exact ⟨ret_b HV.out.symm, N.out.trans X1.out⟩
    | true =>
      cases bs with
      | false =>
        have HV : Hid (R = false) := RR.out.trans (by rw [tokB_3 (by omega), Dn.out, Ds.out]; rfl)
        go_wp2_with fail
        go_ret
        exact ⟨ret_b HV.out.symm, N.out.trans X1.out⟩
      | true =>
        cases bp with
        | false =>
          have HV : Hid (R = false) := RR.out.trans (by rw [tokB_3 (by omega), Dn.out, Ds.out, Dp.out]; rfl)
          go_wp2_with fail
          go_ret
          exact ⟨ret_b HV.out.symm, N.out.trans X1.out⟩
        | true =>
          by_cases hl : l = 2
          · have l1 : ((l : Int) == 2) = true := by rw [beq_iff_eq]; omega
            have HL : Hid (l = 2) := hl
            clear hl
            have HV : Hid (R = true) := RR.out.trans (by rw [tokB_3 (by omega), Dn.out, Ds.out, Dp.out, decide_eq_true HL.out]; rfl)
            go_wp2_with fail
            go_ret
            exact ⟨ret_b HV.out.symm, N.out.trans X1.out⟩
          · have l1 : ((l : Int) == 2) = false := by rw [beq_eq_false_iff_ne]; omega
            have HV : Hid (R = false) := RR.out.trans (by rw [tokB_3 (by omega), Dn.out, Ds.out, Dp.out, decide_eq_false hl]; rfl)
            go_wp2_with fail
            go_ret
            exact ⟨ret_b HV.out.symm, N.out.trans X1.out⟩
  by_cases k5 : k = 5
  · subst k5
    cases bn with
    | false =>
      have HV : Hid (R = false) := RR.out.trans (by rw [tokB_3 (by omega), Dn.out]; rfl)
      go_wp2_with fail
      go_ret
      exact ⟨ret_b HV.out.symm, N.out.trans X1.out⟩
    | true =>
      cases bs with
      | false =>
        have HV : Hid (R = false) := RR.out.trans (by rw [tokB_3 (by omega), Dn.out, Ds.out]; rfl)
        go_wp2_with fail
        go_ret
        exact ⟨ret_b HV.out.symm, N.out.trans X1.out⟩
      | true =>
        cases bp with
        | false =>
          have HV : Hid (R = false) := RR.out.trans (by rw [tokB_3 (by omega), Dn.out, Ds.out, Dp.out]; rfl)
          go_wp2_with fail
          go_ret
          exact ⟨ret_b HV.out.symm, N.out.trans X1.out⟩
        | true =>
          by_cases hl : l = 2
          · have l1 : ((l : Int) == 2) = true := by rw [beq_iff_eq]; omega
            have HL : Hid (l = 2) := hl
            clear hl
            have HV : Hid (R = true) := RR.out.trans (by rw [tokB_3 (by omega), Dn.out, Ds.out, Dp.out, decide_eq_true HL.out]; rfl)
            go_wp2_with fail
            go_ret
            exact ⟨ret_b HV.out.symm, N.out.trans X1.out⟩
          · have l1 : ((l : Int) == 2) = false := by rw [beq_eq_false_iff_ne]; omega
            have HV : Hid (R = false) := RR.out.trans (by rw [tokB_3 (by omega), Dn.out, Ds.out, Dp.out, decide_eq_false hl]; rfl)
            go_wp2_with fail
            go_ret
            exact ⟨ret_b HV.out.symm, N.out.trans X1.out⟩
  by_cases k6 : k = 6
  · subst k6
    cases bn with
    | false =>
      have HV : Hid (R = false) := RR.out.trans (by rw [tokB_3 (by omega), Dn.out]; rfl)
      go_wp2_with fail
      go_ret
      exact ⟨ret_b HV.out.symm, N.out.trans X1.out⟩
    | true =>
      cases bs with
      | false =>
        have HV : Hid (R = false) := RR.out.trans (by rw [tokB_3 (by omega), Dn.out, Ds.out]; rfl)
        go_wp2_with fail
        go_ret
        exact ⟨ret_b HV.out.symm, N.out.trans X1.out⟩
      | true =>
        cases bp with
        | false =>
          have HV : Hid (R = false) := RR.out.trans (by rw [tokB_3 (by omega), Dn.out, Ds.out, Dp.out]; rfl)
          go_wp2_with fail
          go_ret
          exact ⟨ret_b HV.out.symm, N.out.trans X1.out⟩
        | true =>
          by_cases hl : l = 2
          · have l1 : ((l : Int) == 2) = true := by rw [beq_iff_eq]; omega
            have HL : Hid (l = 2) := hl
            clear hl
            have HV : Hid (R = true) := RR.out.trans (by rw [tokB_3 (by omega), Dn.out, Ds.out, Dp.out, decide_eq_true HL.out]; rfl)
            go_wp2_with fail
            go_ret
            exact ⟨ret_b HV.out.symm, N.out.trans X1.out⟩
          · have l1 : ((l : Int) == 2) = false := by rw [beq_eq_false_iff_ne]; omega
            have HV : Hid (R = false) := RR.out.trans (by rw [tokB_3 (by omega), Dn.out, Ds.out, Dp.out, decide_eq_false hl]; rfl)
            go_wp2_with fail
            go_ret
            exact ⟨ret_b HV.out.symm, N.out.trans X1.out⟩
  by_cases k7 : k = 7
  · subst k7
    cases bn with
    | false =>
      have HV : Hid (R = false) := RR.out.trans (by rw [tokB_7, Dn.out]; rfl)
      go_wp2_with fail
      go_ret
      exact ⟨ret_b HV.out.symm, N.out.trans X1.out⟩
    | true =>
      cases bs with
      | false =>
        have HV : Hid (R = false) := RR.out.trans (by rw [tokB_7, Dn.out, Ds.out]; rfl)
        go_wp2_with fail
        go_ret
        exact ⟨ret_b HV.out.symm, N.out.trans X1.out⟩
      | true =>
        go_wp2_with fail
        refine (PO.out _ (N.out.trans X1.out)).mono ?_
        rintro e w2 ⟨rfl, hb2⟩
        clear c0 c1 c2 c3 c4
        obtain ⟨c0, c1, c2, c3, c4⟩ := C.out w2 (X1.out.trans hb2)
        cases bq with
        | false =>
          have HV : Hid (R = false) := RR.out.trans (by rw [tokB_7, Dn.out, Ds.out, Dq.out]; rfl)
          go_wp2_with fail
          go_ret
          exact ⟨ret_b HV.out.symm, N.out.trans (X1.out.trans hb2)⟩
        | true =>
          by_cases hl : l = 1
          · have l1 : ((l : Int) == 1) = true := by rw [beq_iff_eq]; omega
            have HL : Hid (l = 1) := hl
            clear hl
            have HV : Hid (R = true) := RR.out.trans (by rw [tokB_7, Dn.out, Ds.out, Dq.out, decide_eq_true HL.out]; rfl)
            go_wp2_with fail
            go_ret
            exact ⟨ret_b HV.out.symm, N.out.trans (X1.out.trans hb2)⟩
          · have l1 : ((l : Int) == 1) = false := by rw [beq_eq_false_iff_ne]; omega
            have HV : Hid (R = false) := RR.out.trans (by rw [tokB_7, Dn.out, Ds.out, Dq.out, decide_eq_false hl]; rfl)
            go_wp2_with fail
            go_ret
            exact ⟨ret_b HV.out.symm, N.out.trans (X1.out.trans hb2)⟩
  by_cases k8 : k = 8
  · subst k8
    cases bn with
    | false =>
      have HV : Hid (R = false) := RR.out.trans (by rw [tokB_8, Dn.out]; rfl)
      go_wp2_with fail
      go_ret
      exact ⟨ret_b HV.out.symm, N.out.trans X1.out⟩
    | true =>
      cases bs with
      | false =>
        have HV : Hid (R = false) := RR.out.trans (by rw [tokB_8, Dn.out, Ds.out]; rfl)
        go_wp2_with fail
        go_ret
        exact ⟨ret_b HV.out.symm, N.out.trans X1.out⟩
      | true =>
        go_wp2_with fail
        refine (PO.out _ (N.out.trans X1.out)).mono ?_
        rintro e w2 ⟨rfl, hb2⟩
        clear c0 c1 c2 c3 c4
        obtain ⟨c0, c1, c2, c3, c4⟩ := C.out w2 (X1.out.trans hb2)
        cases bq with
        | false =>
          have HV : Hid (R = false) := RR.out.trans (by rw [tokB_8, Dn.out, Ds.out, Dq.out]; rfl)
          go_wp2_with fail
          go_ret
          exact ⟨ret_b HV.out.symm, N.out.trans (X1.out.trans hb2)⟩
        | true =>
          by_cases hl : l = 2
          · have l1 : ((l : Int) == 2) = true := by rw [beq_iff_eq]; omega
            have HL : Hid (l = 2) := hl
            clear hl
            have HV : Hid (R = true) := RR.out.trans (by rw [tokB_8, Dn.out, Ds.out, Dq.out, decide_eq_true HL.out]; rfl)
            go_wp2_with fail
            go_ret
            exact ⟨ret_b HV.out.symm, N.out.trans (X1.out.trans hb2)⟩
          · have l1 : ((l : Int) == 2) = false := by rw [beq_eq_false_iff_ne]; omega
            have HV : Hid (R = false) := RR.out.trans (by rw [tokB_8, Dn.out, Ds.out, Dq.out, decide_eq_false hl]; rfl)
            go_wp2_with fail
            go_ret
            exact ⟨ret_b HV.out.symm, N.out.trans (X1.out.trans hb2)⟩
  have q1 : (k == 1) = false := by rw [beq_eq_false_iff_ne]; exact k1
  have q2 : (k == 2) = false := by rw [beq_eq_false_iff_ne]; exact k2
  have q3 : (k == 3) = false := by rw [beq_eq_false_iff_ne]; exact k3
  have q4 : (k == 4) = false := by rw [beq_eq_false_iff_ne]; exact k4
  have q5 : (k == 5) = false := by rw [beq_eq_false_iff_ne]; exact k5
  have q6 : (k == 6) = false := by rw [beq_eq_false_iff_ne]; exact k6
  have q7 : (k == 7) = false := by rw [beq_eq_false_iff_ne]; exact k7
  have q8 : (k == 8) = false := by rw [beq_eq_false_iff_ne]; exact k8
  have HV : Hid (R = false) := RR.out.trans (tokB_o (by omega))
  go_wp2_with fail
  go_ret
  exact ⟨ret_b HV.out.symm, N.out.trans X1.out⟩

end Go.Proofs.YtldbmlojgakieaaGreatDoor

namespace Go.Proofs.YtldbmlojgakieaaGreatDoor

open Go.RowKit Go.Deep Go.Maps Go.WideMaps

attribute [local go_sem ↓] Go.wp_at_zero Go.wp_at_succ

/-- How often a name is among names. -/
def cntN (ns : List ByteArray) (s : ByteArray) : Nat := (ns.filter fun t => t.toList == s.toList).length
theorem cntN_snoc (ns : List ByteArray) (t s : ByteArray) : cntN (ns ++ [t]) s = cntN ns s + (if (t.toList == s.toList) = true then 1 else 0) := by
  simp only [cntN, List.filter_append, List.length_append, List.filter_cons, List.filter_nil]
  by_cases h : (t.toList == s.toList) = true
  · simp [h]
  · simp [h]
theorem cntN_le (ns : List ByteArray) (s : ByteArray) : cntN ns s ≤ ns.length := List.length_filter_le _ _
theorem cntN_has (ns : List ByteArray) (s : ByteArray) : hasB ns s = decide (cntN ns s ≠ 0) := by
  cases h : hasB ns s with
  | true =>
    simp only [hasB, List.any_eq_true] at h
    obtain ⟨t, ht, he⟩ := h
    symm
    rw [decide_eq_true_eq]
    intro h0
    have := List.length_eq_zero_iff.mp h0
    have hm : t ∈ ns.filter (fun t => t.toList == s.toList) := List.mem_filter.2 ⟨ht, he⟩
    rw [this] at hm; cases hm
  | false =>
    simp only [hasB, List.any_eq_false] at h
    symm
    rw [decide_eq_false_iff_not]
    intro h0
    apply h0
    simp only [cntN]
    rw [List.length_eq_zero_iff, List.filter_eq_nil_iff]
    intro t ht
    simpa using h t ht
theorem cntN_same {ns : List ByteArray} {s t : ByteArray} (h : (s.toList == t.toList) = true) : cntN ns s = cntN ns t := by
  have : s.toList = t.toList := by simpa using h
  simp only [cntN, this]

theorem Tryz.keyed : Keyed Tryz.prog 9 := string_keyed Tryz.underlying9
theorem Tryz.zeroInt (w : World) : (zeroValue 3).run Tryz.prog w = .ok (.int .i64 0) w := by kernel_rfl

/-- A block is a map that holds of each name how often it is among names. -/
def CM (w : World) (mb n : Nat) (ns : List ByteArray) : Prop := ∃ D : DataW Unit, w.ownsMap Tryz.prog 9 (plainElem Tryz.prog 3) mb n D ∧ ∀ s : ByteArray, D.atKey (.string s.data.toList) (.lit (.int .i64 0)) = .lit (.int .i64 (cntN ns s : Int))
theorem CM_made (w : World) : CM (w.alloc (.map #[] 0)) w.heap.size 0 [] := ⟨_, World.ownsMap_made w _ _ _, fun _ => rfl⟩
theorem CM.blk {w w' : World} {mb n : Nat} {ns : List ByteArray} (h : CM w mb n ns) (hb : w'.heap[mb]? = w.heap[mb]?) : CM w' mb n ns := by
  obtain ⟨D, ⟨es, cl, h1, h2⟩, h3⟩ := h
  exact ⟨D, ⟨es, cl, hb.trans h1, h2⟩, h3⟩
theorem CM.lt {w : World} {mb n : Nat} {ns : List ByteArray} (h : CM w mb n ns) : mb < w.heap.size := by
  obtain ⟨D, h1, _⟩ := h
  exact h1.lt
theorem CM.ex {w w' : World} {mb n : Nat} {ns : List ByteArray} (h : CM w mb n ns) (hx : Ex w w') : CM w' mb n ns := h.blk (hx.block mb h.lt)
theorem CM.drew {w : World} {mb n : Nat} {ns : List ByteArray} (h : CM w mb n ns) : CM w.drew mb n ns := h.blk rfl
theorem CM.ne {w : World} {mb n : Nat} {ns : List ByteArray} (h : CM w mb n ns) {p : Addr} {v : Value} (hc : w.cell? p = some v) : p.block ≠ mb := by
  obtain ⟨D, ⟨es, cl, h1, h2⟩, h3⟩ := h
  intro e
  simp [World.cell?, e, h1] at hc
theorem key_string {s : ByteArray} (hs : s.size ≤ 9223372036854775807) : keyOf Tryz.prog 9 (.string s) = some (.string s.data.toList) := keyOf_string_mk Tryz.underlying9 (by unfold maxLen; omega)
/-- A name asked for. -/
theorem CM.look {w : World} {mb n : Nat} {ns : List ByteArray} (h : CM w mb n ns) {s : ByteArray} (hs : s.size ≤ 9223372036854775807) : (Instr.lookup 175 (.map (some mb)) (.string s) false).run Tryz.prog w = .ok (.int .i64 (cntN ns s : Int)) w := by
  obtain ⟨D, h1, h2⟩ := h
  obtain ⟨c, hr, hc, _⟩ := h1.lookup_int Tryz.keyed Tryz.underlying175 Tryz.underlying3 (Tryz.zeroInt _) (key_string hs)
  have e : DataW.lit (H := Unit) (.int .i64 c) = .lit (.int .i64 (cntN ns s : Int)) := hc.symm.trans (h2 s)
  simp only [DataW.lit.injEq, Lit.int.injEq, true_and] at e
  rw [e] at hr; exact hr
theorem grown_fr {w w' : World} {b : Nat} (h : w.grownBy w' (some b)) : Fr b w w' := ⟨h.os, h.tape, h.output, h.size, fun k hk hn => h.block k hk (fun e => hn (Option.some.inj e))⟩
theorem byte_key {s t : ByteArray} : s.data.toList = t.data.toList ↔ (s.toList == t.toList) = true := by
  rw [beq_iff_eq, Go.ByteArray.toList_eq, Go.ByteArray.toList_eq]
theorem CM.put {w' : World} {mb n : Nat} {ns : List ByteArray} {s : ByteArray} {D : DataW Unit} (hD : IsMap D) (h2 : ∀ s : ByteArray, D.atKey (.string s.data.toList) (.lit (.int .i64 0)) = .lit (.int .i64 (cntN ns s : Int))) (h : w'.ownsMap Tryz.prog 9 (plainElem Tryz.prog 3) mb n (D.put (.string s.data.toList) (.lit (.int .i64 ((cntN ns s : Int) + 1))))) : CM w' mb n (ns ++ [s]) := by
  refine ⟨_, h, fun t => ?_⟩
  by_cases he : (s.toList == t.toList) = true
  · have e := byte_key.2 he
    rw [← e, atKey_put_same hD (k := .string s.data.toList) (by simp [WideAt.IsKeyLit]), cntN_snoc, if_pos he, ← cntN_same he]
    simp
  · rw [atKey_put_other (fun e => by injection e with e; exact he (byte_key.1 e.symm)), h2 t, cntN_snoc, if_neg he]
    simp

/-- A name counted once more: an operation of an ordered list. -/
theorem wpList_count {w : World} {ops : Array Oper} {rest : List Oper} {o : Oper} {a : Act} {Q : Exit → Act → World → Prop} (hg : o.guard = none) (m x v : Operand) (hop : o.op = Op.mapUpdate 175 m x v)
    (mb n : Nat) (ns : List ByteArray) (s : ByteArray) (hs : s.size ≤ 9223372036854775807) (hm : a.eval m = .map (some mb)) (hC : CM w mb n ns) (hn : n < 1000000) (hns : ns.length < 1000000) (hx : a.eval x = .string s) (hv : a.eval v = .int .i64 ((cntN ns s : Int) + 1))
    (hK : ∀ w', CM w' mb (n + 1) (ns ++ [s]) → Fr mb w w' → wpList Tryz.prog ops Q rest (a.put o.dst undef) w') : wpList Tryz.prog ops Q (o :: rest) a w := by
  obtain ⟨D, h1, h2⟩ := hC
  have hc := cntN_le ns s
  refine wpList_mapUpdate_own w hg m x v 175 hop 9 3 Tryz.keyed Tryz.underlying175 _ mb n D hm h1 (by unfold maxLen; omega) _ _ _ hx hv (key_string hs) _ [] (plainElem_int Tryz.underlying3 (WalkArith.wf_i64 (by omega))) ?_
  intro w' hown hgr
  exact hK w' (CM.put h1.isMap h2 hown) (grown_fr hgr)

end Go.Proofs.YtldbmlojgakieaaGreatDoor

namespace Go.Proofs.YtldbmlojgakieaaGreatDoor

open Go.RowKit Go.Deep

attribute [local go_sem ↓] Go.wp_at_zero Go.wp_at_succ

/-- What a count answers: what is left, or -1; and what it tells, if something is left: so much has been counted, at least. -/
def SzP (n : Nat) (S : Prop) (l : Int) (w : World) (e : Ending) (w' : World) : Prop := ∃ x : Int, e = .returned (.int .i64 x) ∧ -1 ≤ x ∧ x ≤ l ∧ (0 ≤ x → S ∧ x + n ≤ l) ∧ Ex w w'

/-- The sum of so many. -/
def sumN (g : Nat → Nat) : Nat → Nat
  | 0 => 0
  | k + 1 => sumN g k + g k
theorem sumN_shift (g : Nat → Nat) : ∀ n, sumN g (n + 1) = g 0 + sumN (fun i => g (i + 1)) n
  | 0 => by simp [sumN]
  | n + 1 => by rw [sumN, sumN_shift g n, sumN]; omega
theorem sumN_eq {g g' : Nat → Nat} : ∀ n, (∀ i, i < n → g i = g' i) → sumN g n = sumN g' n
  | 0, _ => rfl
  | n + 1, h => by rw [sumN, sumN, sumN_eq n fun i hi => h i (by omega), h n (by omega)]

/-- How much texts count. -/
def xW (p : List ByteArray) : Nat := p.length + sumN (fun i => (p.getD i ⟨#[]⟩).size) p.length
/-- How much terms count. -/
def tW : TM → Nat
  | .nil => 0
  | .node _ _ (_, _, s, p) k r => 1 + (s.size + p.length + tW k) + tW r
def tWk (f : TM) (j : Nat) : Nat := (tname f j).size + (tpath f j).length + tW (tkid f j)
theorem tW_sum : ∀ f : TM, tW f = tlen f + sumN (tWk f) (tlen f)
  | .nil => rfl
  | .node a b (k, n, s, p) f r => by
    have h : sumN (fun i => tWk (.node a b (k, n, s, p) f r) (i + 1)) (tlen r) = sumN (tWk r) (tlen r) := sumN_eq _ fun i _ => rfl
    rw [tlen, sumN_shift, h, tW, tW_sum r]
    show _ = _ + ((s.size + p.length + tW f) + _)
    omega

set_option maxHeartbeats 1000000 in
theorem szInts_any (n c : Nat) (a : Option Addr) (l : Int) (w : World) (hn : n ≤ 9223372036854775807) (h0 : 0 ≤ l) (h1 : l ≤ 1048576) :
    Calls Tryz.prog 112 #[.slice a n c, .int .i64 l] w (SzP n (n ≤ 1048576) l w) := by
  by_cases hb : l - n < 0
  · go_enter Tryz.func112, Tryz.ntmps112
    go_wp2_with fail
    go_ret
    exact ⟨-1, rfl, by omega, by omega, by omega, Ex.refl _⟩
  · go_enter Tryz.func112, Tryz.ntmps112
    go_wp2_with fail
    go_ret
    exact ⟨l - n, rfl, by omega, by omega, fun _ => ⟨by omega, by omega⟩, Ex.refl _⟩

/-- All texts are of a length that is one. -/
def XLm (p : List ByteArray) : Prop := ∀ i, i < p.length → (p.getD i ⟨#[]⟩).size ≤ 9223372036854775807

set_option maxHeartbeats 1000000 in
theorem szTexts_any (p : List ByteArray) (a : Option Addr) (c : Nat) (l : Int) (w : World) (hlen : p.length ≤ 9223372036854775807) (hs : XLm p) (h0 : 0 ≤ l) (h1 : l ≤ 1048576) (hT : XA w 0 p a) :
    Calls Tryz.prog 44 #[.slice a p.length c, .int .i64 l] w (SzP (xW p) (p.length ≤ 1048576) l w) := by
  have T : Hid (∀ w', Ex w w' → XA w' 0 p a) := fun _ h => XA_below hT h
  have S : Hid (XLm p) := hs
  clear hT hs
  by_cases hneg : l - p.length < 0
  · go_enter Tryz.func44, Tryz.ntmps44
    go_wp2_with fail
    go_ret
    exact ⟨-1, rfl, by omega, by omega, fun h => by omega, Ex.refl _⟩
  · go_enter Tryz.func44, Tryz.ntmps44
    go_wp2_with fail
    go_loopw [1, 5] (fun lv i wr => ∃ (k : Nat) (x : Int), k ≤ p.length ∧ i = .int .i64 k ∧ lv = .int .i64 x ∧ 0 ≤ x ∧ x + (p.length + sumN (fun i => (p.getD i ⟨#[]⟩).size) k : Nat) ≤ l ∧ Ex w wr) (fun _ i _ => p.length - (intOf i).toNat)
    case atStart => exact ⟨0, l - p.length, Nat.zero_le _, rfl, rfl, by omega, by simp only [sumN]; omega, Ex.refl _⟩
    case round =>
      obtain ⟨k, x, hk, rfl, rfl, hx0, hxl, hx⟩ := hrel
      have X : Hid (Ex w wr) := hx
      have HX : Hid (x + (p.length + sumN (fun i => (p.getD i ⟨#[]⟩).size) k : Nat) ≤ l) := hxl
      have hxm : x ≤ l := by omega
      clear hx hxl
      by_cases hlt : k < p.length
      · obtain ⟨b, o, rfl, hbs, _, hc⟩ := XA_at (T.out wr X.out) (by omega)
        have ck := hc k hlt
        have hz := S.out k hlt
        obtain ⟨t, ht⟩ : ∃ t, p.getD k ⟨#[]⟩ = t := ⟨_, rfl⟩
        rw [ht] at ck hz
        have HS : Hid ((p.getD k ⟨#[]⟩).size = t.size) := by show _ = _; rw [ht]
        clear hc ht
        by_cases hy : x - t.size < 0
        · go_wp2_with fail
          go_ret
          exact ⟨-1, rfl, by omega, by omega, fun h => by omega, X.out⟩
        · have HX2 : Hid (x - t.size + (p.length + sumN (fun i => (p.getD i ⟨#[]⟩).size) (k + 1) : Nat) ≤ l) := by
            have q1 := HX.out
            have q2 := HS.out
            show _ ≤ _
            simp only [sumN]
            omega
          go_wp2_with fail
          go_roundw
          case rel => exact ⟨k + 1, x - t.size, by omega, by go_num, rfl, by omega, HX2.out, X.out⟩
          case measure => simp [intOf]; omega
      · have hkl : k = p.length := by omega
        have HX2 : Hid (x + (xW p : Nat) ≤ l) := by
          have q1 := HX.out
          rw [hkl] at q1
          exact q1
        clear hkl
        go_wp2_with fail
        go_ret
        exact ⟨x, rfl, by omega, by omega, fun _ => ⟨by omega, HX2.out⟩, X.out⟩

/-- All lists and names are of a length that is one. -/
def TLm : TM → Prop
  | .nil => True
  | .node _ _ (_, _, s, p) k r => s.size ≤ 9223372036854775807 ∧ p.length ≤ 9223372036854775807 ∧ tlen k ≤ 9223372036854775807 ∧ TLm k ∧ TLm r
theorem TLm_at : ∀ {f : TM}, TLm f → ∀ i, i < tlen f → (tname f i).size ≤ 9223372036854775807 ∧ (tpath f i).length ≤ 9223372036854775807 ∧ tlen (tkid f i) ≤ 9223372036854775807 ∧ TLm (tkid f i)
  | .nil, _, i, h => by simp [tlen] at h
  | .node _ _ (_, _, _, _) k r, hs, 0, _ => ⟨hs.1, hs.2.1, hs.2.2.1, hs.2.2.2.1⟩
  | .node _ _ (_, _, _, _) k r, hs, i + 1, h => TLm_at hs.2.2.2.2 i (by simp only [tlen] at h; omega)

/-- Small, as far as it goes. -/
def TSmTo (f : TM) (k : Nat) : Prop := ∀ j, j < k → (tpath f j).length ≤ 1048576 ∧ tlen (tkid f j) ≤ 1048576 ∧ TSm (tkid f j)
theorem TSm_of : ∀ {f : TM}, TSmTo f (tlen f) → TSm f
  | .nil, _ => trivial
  | .node _ _ (_, _, _, p) k r, h => by
    have h0 := h 0 (by simp [tlen])
    simp only [tpath, tkid] at h0
    exact ⟨by omega, by omega, h0.2.2, TSm_of fun j hj => h (j + 1) (by simp only [tlen]; omega)⟩

set_option maxRecDepth 100000 in
set_option maxHeartbeats 2000000 in
theorem szTermS_by (f : TM) (a : Option Addr) (c : Nat) (l : Int) (w : World) (hlen : tlen f ≤ 9223372036854775807) (h0 : 0 ≤ l) (h1 : l ≤ 1048576) (hT : MA w 0 f a)
    (hK : ∀ j, j < tlen f → ∀ (pa : Option Addr) (pc : Nat) (a' : Option Addr) (c' : Nat) (m : Int) (w' : World), Ex w w' → 0 ≤ m → m ≤ 1048576 → MA w' 0 (tkid f j) a' → Calls Tryz.prog 88 #[.agg #[.int .i64 (tkind f j), .int .i64 (tnum f j), .string (tname f j), .slice pa (tpath f j).length pc, .slice a' (tlen (tkid f j)) c'], .int .i64 m] w' (SzP (tWk f j) ((tpath f j).length ≤ 1048576 ∧ tlen (tkid f j) ≤ 1048576 ∧ TSm (tkid f j)) m w')) :
    Calls Tryz.prog 69 #[.slice a (tlen f) c, .int .i64 l] w (SzP (tW f) (tlen f ≤ 1048576 ∧ TSm f) l w) := by
  have T : Hid (∀ w', Ex w w' → MA w' 0 f a) := fun _ h => MA_below hT h
  have I : Hid _ := hK
  clear hT hK
  by_cases hneg : l - tlen f < 0
  · go_enter Tryz.func69, Tryz.ntmps69
    go_wp2_with fail
    go_ret
    exact ⟨-1, rfl, by omega, by omega, fun h => by omega, Ex.refl _⟩
  · go_enter Tryz.func69, Tryz.ntmps69
    go_wp2_with fail
    go_loopw [1, 5] (fun lv i wr => ∃ (k : Nat) (x : Int), k ≤ tlen f ∧ i = .int .i64 k ∧ lv = .int .i64 x ∧ 0 ≤ x ∧ x + (tlen f + sumN (tWk f) k : Nat) ≤ l ∧ TSmTo f k ∧ Ex w wr) (fun _ i _ => tlen f - (intOf i).toNat)
    case atStart => exact ⟨0, l - tlen f, Nat.zero_le _, rfl, rfl, by omega, by simp only [sumN]; omega, fun j hj => by omega, Ex.refl _⟩
    case round =>
      obtain ⟨j, x, hk, rfl, rfl, hx0, hxl, hsm, hx⟩ := hrel
      have ST : Hid (TSmTo f j) := hsm
      have HX : Hid (x + (tlen f + sumN (tWk f) j : Nat) ≤ l) := hxl
      have hxm : x ≤ l := by omega
      clear hxl
      have X : Hid (Ex w wr) := hx
      clear hsm hx
      by_cases hlt : j < tlen f
      · obtain ⟨b, o, rfl, _, hbs, hk⟩ := MA_at (T.out wr X.out) (by omega)
        obtain ⟨e0, e1, e2, ⟨pa, pc, e3, hp'⟩, a', c', e4, hm'⟩ := hk j hlt
        have HI : Hid _ := I.out j hlt pa pc a' c' x wr X.out hx0 (by omega) hm'
        clear hk hp' hm'
        go_wp2_with fail
        refine Calls.mono HI.out ?_
        rintro e w1 ⟨y, rfl, hy0, hy1, hyf, hb1⟩
        have YF : Hid (0 ≤ y → (tpath f j).length ≤ 1048576 ∧ tlen (tkid f j) ≤ 1048576 ∧ TSm (tkid f j)) := fun h => (hyf h).1
        have YW : Hid (0 ≤ y → y + (tWk f j : Nat) ≤ x) := fun h => (hyf h).2
        have X1 : Hid (Ex w w1) := X.out.trans hb1
        clear hyf hb1 HI
        by_cases hy : y < 0
        · go_wp2_with fail
          go_ret
          exact ⟨-1, rfl, by omega, by omega, fun h => by omega, X1.out⟩
        · have HS : Hid (TSmTo f (j + 1)) := fun i hi => by
            by_cases hj' : i < j
            · exact ST.out i hj'
            · have e : i = j := by omega
              subst e
              exact YF.out (by omega)
          have HX2 : Hid (y + (tlen f + sumN (tWk f) (j + 1) : Nat) ≤ l) := by
            have q1 := HX.out
            have q2 := YW.out (by omega)
            show _ ≤ _
            simp only [sumN]
            omega
          go_wp2_with fail
          go_roundw
          case rel => exact ⟨j + 1, y, by omega, by go_num, rfl, by omega, HX2.out, HS.out, X1.out⟩
          case measure => simp [intOf]; omega
      · have hjl : j = tlen f := by omega
        have HS : Hid _ := TSm_of (hjl ▸ ST.out)
        have HX2 : Hid (x + (tW f : Nat) ≤ l) := by
          have q1 := HX.out
          rw [hjl] at q1
          show _ ≤ _
          rw [tW_sum]
          exact q1
        clear hjl
        go_wp2_with fail
        go_ret
        exact ⟨x, rfl, by omega, by omega, fun _ => ⟨⟨by omega, HS.out⟩, HX2.out⟩, X.out⟩

set_option maxRecDepth 100000 in
set_option maxHeartbeats 2000000 in
theorem szTerm_by (k n : Int) (s : ByteArray) (np : Nat) (pa : Option Addr) (pc : Nat) (f : TM) (a : Option Addr) (c : Nat) (l : Int) (w : World) (hs : s.size ≤ 9223372036854775807) (hnp : np ≤ 9223372036854775807) (hK : ∀ (m : Int) (w' : World), Ex w w' → 0 ≤ m → m ≤ 1048576 → Calls Tryz.prog 69 #[.slice a (tlen f) c, .int .i64 m] w' (SzP (tW f) (tlen f ≤ 1048576 ∧ TSm f) m w')) (h0 : 0 ≤ l) (h1 : l ≤ 1048576) :
    Calls Tryz.prog 88 #[.agg #[.int .i64 k, .int .i64 n, .string s, .slice pa np pc, .slice a (tlen f) c], .int .i64 l] w (SzP (s.size + np + tW f) (np ≤ 1048576 ∧ tlen f ≤ 1048576 ∧ TSm f) l w) := by
  have N : Hid (Ex w (w.alloc (.cells #[.int .i64 k, .int .i64 n, .string s, .slice pa np pc, .slice a (tlen f) c] 162))) := Ex.new _ _
  have C : Hid (∀ w', Ex (w.alloc (.cells #[.int .i64 k, .int .i64 n, .string s, .slice pa np pc, .slice a (tlen f) c] 162)) w' → w'.cell? ⟨w.heap.size, 0, none⟩ = some (.int .i64 k) ∧ w'.cell? ⟨w.heap.size, 1, none⟩ = some (.int .i64 n) ∧ w'.cell? ⟨w.heap.size, 2, none⟩ = some (.string s) ∧ w'.cell? ⟨w.heap.size, 3, none⟩ = some (.slice pa np pc) ∧ w'.cell? ⟨w.heap.size, 4, none⟩ = some (.slice a (tlen f) c)) := fun w' h => ⟨h.at (by simp), h.at (by simp), h.at (by simp), h.at (by simp), h.at (by simp)⟩
  by_cases hb1 : l - s.size < 0
  · go_enter Tryz.func88, Tryz.ntmps88
    go_wp2_with fail
    go_ret
    exact ⟨-1, rfl, by omega, by omega, fun h => by omega, N.out⟩
  obtain ⟨m1, hm1⟩ : ∃ m : Int, m = l - s.size := ⟨_, rfl⟩
  have hp1 : 0 ≤ m1 := by omega
  have HV1 : Hid (m1 + (s.size : Nat) ≤ l) := by show _ ≤ _; omega
  have hq1 : m1 ≤ l := by omega
  go_enter Tryz.func88, Tryz.ntmps88
  go_wp2_with fail
  rw [← hm1]
  clear hb1 hm1
  refine (szInts_any np pc pa m1 _ hnp (by omega) (by omega)).mono ?_
  rintro e w2 ⟨x2, rfl, hxa2, hxb2, hxf2, hxe2⟩
  have F2 : Hid (0 ≤ x2 → np ≤ 1048576) := fun h => (hxf2 h).1
  have HV2 : Hid (0 ≤ x2 → x2 + (np : Nat) ≤ m1) := fun h => (hxf2 h).2
  have X2 : Hid (Ex (w.alloc (.cells #[.int .i64 k, .int .i64 n, .string s, .slice pa np pc, .slice a (tlen f) c] 162)) w2) := hxe2
  have hr2 : x2 ≤ l := by omega
  clear hxf2 hxe2
  obtain ⟨c0, c1, c2, c3, c4⟩ := C.out w2 X2.out
  by_cases hx2 : x2 < 0
  · go_wp2_with fail
    go_ret
    exact ⟨-1, rfl, by omega, by omega, fun h => by omega, (N.out.trans X2.out)⟩
  go_wp2_with fail
  refine (hK x2 _ (N.out.trans X2.out) (by omega) (by omega)).mono ?_
  rintro e w3 ⟨x3, rfl, hxa3, hxb3, hxf3, hxe3⟩
  have F3 : Hid (0 ≤ x3 → tlen f ≤ 1048576 ∧ TSm f) := fun h => (hxf3 h).1
  have HV3 : Hid (0 ≤ x3 → x3 + (tW f : Nat) ≤ x2) := fun h => (hxf3 h).2
  have X3 : Hid (Ex (w.alloc (.cells #[.int .i64 k, .int .i64 n, .string s, .slice pa np pc, .slice a (tlen f) c] 162)) w3) := X2.out.trans hxe3
  have hr3 : x3 ≤ l := by omega
  clear hxf3 hxe3
  clear c0 c1 c2 c3 c4
  obtain ⟨c0, c1, c2, c3, c4⟩ := C.out w3 X3.out
  by_cases hx3 : x3 < 0
  · go_wp2_with fail
    go_ret
    exact ⟨-1, rfl, by omega, by omega, fun h => by omega, (N.out.trans X3.out)⟩
  go_wp2_with fail
  go_ret
  exact ⟨x3, rfl, by omega, by omega, fun _ => ⟨⟨F2.out (by omega), F3.out (by omega)⟩, by have v1 := HV1.out; have v2 := HV2.out (by omega); have v3 := HV3.out (by omega); omega⟩, (N.out.trans X3.out)⟩

theorem szTermS_all : ∀ (d : Nat) (f : TM) (a : Option Addr) (c : Nat) (l : Int) (w : World), tdep f < d → tlen f ≤ 9223372036854775807 → TLm f → 0 ≤ l → l ≤ 1048576 → MA w 0 f a →
    Calls Tryz.prog 69 #[.slice a (tlen f) c, .int .i64 l] w (SzP (tW f) (tlen f ≤ 1048576 ∧ TSm f) l w) := by
  intro d
  induction d with
  | zero => intro f a c l w hd; omega
  | succ d ih =>
    intro f a c l w hd hl hm h0 h1 hT
    refine szTermS_by f a c l w hl h0 h1 hT fun j hj pa pc a' c' m w' _ hm0 hm1 hk => ?_
    obtain ⟨g1, g2, g3, g4⟩ := TLm_at hm j hj
    have hdj := tdep_kid f j hj
    exact szTerm_by _ _ _ _ pa pc _ a' c' m w' g1 g2 (fun m2 w2 hx2 hm2 hm3 => ih _ a' c' m2 w2 (by omega) g3 g4 hm2 hm3 (MA_below hk hx2)) hm0 hm1

theorem szTermS_any (f : TM) (a : Option Addr) (c : Nat) (l : Int) (w : World) (hl : tlen f ≤ 9223372036854775807) (hm : TLm f) (h0 : 0 ≤ l) (h1 : l ≤ 1048576) (hT : MA w 0 f a) :
    Calls Tryz.prog 69 #[.slice a (tlen f) c, .int .i64 l] w (SzP (tW f) (tlen f ≤ 1048576 ∧ TSm f) l w) := szTermS_all (tdep f + 1) f a c l w (by omega) hl hm h0 h1 hT

end Go.Proofs.YtldbmlojgakieaaGreatDoor

namespace Go.Proofs.YtldbmlojgakieaaGreatDoor

open Go.RowKit Go.Deep Go.Maps Go.WideMaps

attribute [local go_sem ↓] Go.wp_at_zero Go.wp_at_succ

theorem take_snoc {p : List ByteArray} {k : Nat} (h : k < p.length) : p.take (k + 1) = p.take k ++ [p.getD k ⟨#[]⟩] := by
  rw [List.take_add_one, List.getElem?_eq_getElem h]
  simp [List.getD, h]

/-- Behind names that were bound. -/
def BindP (mb n : Nat) (ns p : List ByteArray) (w : World) (e : Ending) (w' : World) : Prop := e = .returned (.tuple #[]) ∧ CM w' mb (n + p.length) (ns ++ p) ∧ Fr mb w w'
set_option maxRecDepth 100000 in
set_option maxHeartbeats 2000000 in
theorem bind_any (aa : Option Addr) (al ac mb n : Nat) (ns p : List ByteArray) (xa : Option Addr) (xc : Nat) (w : World) (hC : CM w mb n ns) (hX : ∀ w', Fr mb w w' → XA w' 0 p xa) (hz : XLm p) (hn : n + p.length ≤ 999999) (hns : ns.length + p.length ≤ 999999) :
    Calls Tryz.prog 100 #[.agg #[.slice aa al ac, .map (some mb)], .slice xa p.length xc] w (BindP mb n ns p w) := by
  have hlt := hC.lt
  have N : Hid (Fr mb w (w.alloc (.cells #[.slice aa al ac, .map (some mb)] 177))) := Fr.of_ex (Ex.new _ _) _
  have C : Hid (∀ w', Fr mb (w.alloc (.cells #[.slice aa al ac, .map (some mb)] 177)) w' → w'.cell? ⟨w.heap.size, 1, none⟩ = some (.map (some mb))) := fun w' h => h.at (by show w.heap.size ≠ mb; omega) (by simp)
  have C0 : Hid (CM (w.alloc (.cells #[.slice aa al ac, .map (some mb)] 177)) mb n ns) := hC.ex (Ex.new _ _)
  have X : Hid (∀ w', Fr mb w w' → XA w' 0 p xa) := hX
  have Z : Hid (XLm p) := hz
  clear hC hX hz hlt
  go_enter Tryz.func100, Tryz.ntmps100
  go_wp2_with fail
  go_loopw [5, 8] (fun _ i wr => ∃ k : Nat, k ≤ p.length ∧ i = .int .i64 k ∧ CM wr mb (n + k) (ns ++ p.take k) ∧ Fr mb (w.alloc (.cells #[.slice aa al ac, .map (some mb)] 177)) wr) (fun _ i _ => p.length - (intOf i).toNat)
  case atStart => exact ⟨0, Nat.zero_le _, rfl, by rw [List.take_zero, List.append_nil]; exact C0.out, Fr.refl _ _⟩
  case round =>
    obtain ⟨k, hk, rfl, hCk, hF⟩ := hrel
    have CK : Hid _ := hCk
    have F : Hid (Fr mb (w.alloc (.cells #[.slice aa al ac, .map (some mb)] 177)) wr) := hF
    have cm := C.out wr hF
    clear hF
    by_cases hlt : k < p.length
    · obtain ⟨b, o, rfl, hbs, _, hc⟩ := XA_at (X.out wr (N.out.trans F.out)) (by omega)
      have ck := hc k hlt
      have hsz := Z.out k hlt
      have TS : Hid (p.take (k + 1) = p.take k ++ [p.getD k ⟨#[]⟩]) := take_snoc hlt
      obtain ⟨s, hs⟩ : ∃ s, p.getD k ⟨#[]⟩ = s := ⟨_, rfl⟩
      rw [hs] at ck hsz TS
      clear hc hs
      have hrun := hCk.look hsz
      have hcl := cntN_le (ns ++ p.take k) s
      rw [List.length_append, List.length_take] at hcl
      obtain ⟨c, hce⟩ : ∃ c, cntN (ns ++ p.take k) s = c := ⟨_, rfl⟩
      rw [hce] at hrun hcl
      have HV : Hid (Value.int .i64 ((c : Int) + 1) = Value.int .i64 ((cntN (ns ++ p.take k) s : Int) + 1)) := by show _ = _; rw [hce]
      have hcb : c ≤ 999999 := by omega
      have hl2 : (ns ++ p.take k).length < 1000000 := by rw [List.length_append, List.length_take]; omega
      have L2 : Hid _ := hl2
      have SZ : Hid _ := hsz
      clear hce hCk hcl hl2 hsz
      go_wp2_with (at_mapUpdate; refine wpList_count rfl _ _ _ rfl mb (n + k) (ns ++ p.take k) s SZ.out rfl CK.out (by omega) L2.out rfl HV.out ?_)
      intro w1 hC1 hF1
      have CN : Hid (CM w1 mb (n + (k + 1)) (ns ++ p.take (k + 1))) := by
        show CM _ _ _ _
        rw [TS.out, ← Nat.add_assoc]; first | exact hC1 | (rw [← List.append_assoc]; exact hC1)
      have F1 : Hid (Fr mb (w.alloc (.cells #[.slice aa al ac, .map (some mb)] 177)) w1) := F.out.trans hF1
      clear hC1 hF1 hrun cm ck CK
      go_wp2_with fail
      go_roundw
      case rel => exact ⟨k + 1, by omega, by go_num, CN.out, F1.out⟩
      case measure => simp [intOf]; omega
    · have CE : Hid (CM wr mb (n + p.length) (ns ++ p)) := by
        show CM _ _ _ _
        have e : k = p.length := by omega
        have := CK.out
        rw [e, List.take_length] at this; exact this
      clear hCk cm
      go_wp2_with fail
      go_end0
      exact ⟨rfl, CE.out, N.out.trans F.out⟩

/-- Names that may be bound together. -/
def namesB (nm : List ByteArray) : Bool := decide (nm.length ≤ 60) && uniqB nm

set_option maxRecDepth 100000 in
set_option maxHeartbeats 2000000 in
theorem namesOk_any (p : List ByteArray) (xa : Option Addr) (xc : Nat) (w : World) (hz : XLm p) (hX : XA w 0 p xa) :
    Calls Tryz.prog 99 #[.slice xa p.length xc] w fun e w' => e = .returned (.bool (namesB p)) ∧ Ex w w' := by
  have X : Hid (∀ w', Ex w w' → XA w' 0 p xa) := fun _ h => XA_below hX h
  have Z : Hid (XLm p) := hz
  clear hX hz
  obtain ⟨R, hR⟩ : ∃ R, R = namesB p := ⟨_, rfl⟩
  have RR : Hid (R = namesB p) := hR
  rw [← hR]
  clear hR
  by_cases h60 : 60 < p.length
  · have HR : Hid (R = false) := RR.out.trans (by rw [namesB, decide_eq_false (by omega)]; rfl)
    have d1 : decide ((60 : Int) < (p.length : Int)) = true := decide_eq_true (by omega)
    go_enter Tryz.func99, Tryz.ntmps99
    go_wp2_with fail
    go_ret
    exact ⟨ret_b HR.out.symm, Ex.refl _⟩
  have R2 : Hid (R = uniqB p) := RR.out.trans (by rw [namesB, decide_eq_true (by omega)]; rfl)
  have d1 : decide ((60 : Int) < (p.length : Int)) = false := decide_eq_false (by omega)
  have hmm := @run_makeMap Tryz.prog
  clear RR
  go_enter Tryz.func99, Tryz.ntmps99
  go_wp2_with fail
  go_loopw [5, 12] (fun _ i wr => ∃ k : Nat, k ≤ p.length ∧ i = .int .i64 k ∧ CM wr w.heap.size k (p.take k) ∧ (∀ j, j < k → uniqAt p j = true) ∧ Ex w wr) (fun _ i _ => p.length - (intOf i).toNat)
  case atStart => exact ⟨0, Nat.zero_le _, rfl, by rw [List.take_zero]; exact CM_made w, fun j hj => by omega, Ex.new _ _⟩
  case round =>
    obtain ⟨k, hk, rfl, hCk, hall, hx⟩ := hrel
    have CK : Hid _ := hCk
    have A : Hid (∀ j, j < k → uniqAt p j = true) := hall
    have E : Hid (Ex w wr) := hx
    clear hall hx hmm
    by_cases hlt : k < p.length
    · obtain ⟨b, o, rfl, hbs, _, hc⟩ := XA_at (X.out wr E.out) (by omega)
      have ck := hc k hlt
      have hsz := Z.out k hlt
      have TS : Hid (p.take (k + 1) = p.take k ++ [p.getD k ⟨#[]⟩]) := take_snoc hlt
      have U : Hid (uniqAt p k = true → ∀ j, j < k + 1 → uniqAt p j = true) := fun h => upto_succ A.out h
      have V : Hid (uniqAt p k = false → R = false) := fun h => R2.out.trans (uniqB_no hlt h)
      have UA : Hid (uniqAt p k = (wordB (p.getD k ⟨#[]⟩) && !hasB (p.take k) (p.getD k ⟨#[]⟩))) := rfl
      obtain ⟨s, hs⟩ : ∃ s, p.getD k ⟨#[]⟩ = s := ⟨_, rfl⟩
      rw [hs] at ck hsz TS UA
      clear hc hs
      have hrun := hCk.look hsz
      have hcl := cntN_le (p.take k) s
      rw [List.length_take] at hcl
      have HB : Hid (hasB (p.take k) s = decide (cntN (p.take k) s ≠ 0)) := cntN_has _ _
      have HN : Hid (cntN (p.take k ++ [s]) s = cntN (p.take k) s + 1) := by show _ = _; rw [cntN_snoc, if_pos (by simp)]
      obtain ⟨c, hce⟩ : ∃ c, cntN (p.take k) s = c := ⟨_, rfl⟩
      rw [hce] at hrun hcl HB HN
      have HV : Hid (Value.int .i64 ((c : Int) + 1) = Value.int .i64 ((cntN (p.take k) s : Int) + 1)) := by show _ = _; rw [hce]
      have hcb : c ≤ 999999 := by omega
      have hl2 : (p.take k).length < 1000000 := by rw [List.length_take]; omega
      have L2 : Hid _ := hl2
      have SZ : Hid _ := hsz
      clear hce hCk hcl hl2 hsz
      go_wp2_with (at_mapUpdate; refine wpList_count rfl _ _ _ rfl w.heap.size k (p.take k) s SZ.out rfl CK.out (by omega) L2.out rfl HV.out ?_)
      intro w1 hC1 hF1
      have hrun2 := hC1.look SZ.out
      rw [HN.out] at hrun2
      have e2 : ((c + 1 : Nat) : Int) = (c : Int) + 1 := by omega
      rw [e2] at hrun2
      have CN : Hid (CM w1 w.heap.size (k + 1) (p.take (k + 1))) := by
        show CM _ _ _ _
        rw [TS.out]; exact hC1
      have E1 : Hid (Ex w w1) := hF1.to_ex E.out (Nat.le_refl _)
      clear hC1 hF1 hrun CK e2
      by_cases h0 : c = 0
      · have g1 : decide ((1 : Int) < (c : Int) + 1) = false := decide_eq_false (by omega)
        have H0 : Hid (hasB (p.take k) s = false) := HB.out.trans (decide_eq_false (by omega))
        clear h0
        go_wp2_with fail
        refine (nameOk_any s _).mono ?_
        rintro e w2 ⟨rfl, hb2⟩
        cases hw : wordB s with
        | false =>
          have HR : Hid (R = false) := V.out (by rw [UA.out, hw]; rfl)
          go_wp2_with fail
          go_ret
          exact ⟨ret_b HR.out.symm, E1.out.trans hb2⟩
        | true =>
          have HU : Hid _ := U.out (by rw [UA.out, hw, H0.out]; rfl)
          have CE : Hid (CM w2 w.heap.size (k + 1) (p.take (k + 1))) := CN.out.ex hb2
          clear hw
          go_wp2_with fail
          go_roundw
          case rel => exact ⟨k + 1, by omega, by go_num, CE.out, HU.out, E1.out.trans hb2⟩
          case measure => simp [intOf]; omega
      · have g1 : decide ((1 : Int) < (c : Int) + 1) = true := decide_eq_true (by omega)
        have HR : Hid (R = false) := V.out (by rw [UA.out, HB.out, decide_eq_true h0]; simp)
        clear h0
        go_wp2_with fail
        go_ret
        exact ⟨ret_b HR.out.symm, E1.out⟩
    · have HR : Hid (R = true) := R2.out.trans (uniqB_yes fun i hi => A.out i (by omega))
      go_wp2_with fail
      go_ret
      exact ⟨ret_b HR.out.symm, E.out⟩

end Go.Proofs.YtldbmlojgakieaaGreatDoor
