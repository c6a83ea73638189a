/- Walks: the same texts and terms compared. -/
import Derived.Test.YthdihpcpobhadaaDoorSZ1

import Derived.Test.YthdihpcpobhadaaDoorE3

import Derived.Deep.RegionHeld3

namespace Go.Proofs.YthdihpcpobhadaaDoor

open Go.RowKit Go.Deep

attribute [local go_sem ↓] Go.wp_at_zero Go.wp_at_succ

set_option maxRecDepth 100000 in
set_option maxHeartbeats 2000000 in
theorem eqTexts_same (f : List ByteArray) (a a' : Option Addr) (c c' : Nat) (w : World) (hl : f.length ≤ 1000000000) (hT : XA w 0 f a) (hT' : XA w 0 f a') :
    Calls Tryd.prog 20 #[.slice a f.length c, .slice a' f.length c'] w fun e w' => e = .returned (.bool true) ∧ Ex w w' := by
  have T : Hid (∀ w', Ex w w' → XA w' 0 f a) := fun _ h => XA_below hT h
  have T' : Hid (∀ w', Ex w w' → XA w' 0 f a') := fun _ h => XA_below hT' h
  clear hT hT'
  go_enter Tryd.func20, Tryd.ntmps20
  go_wp2_with fail
  go_loopw [5] (fun i wr => ∃ k : Nat, k ≤ f.length ∧ i = .int .i64 k ∧ Ex w wr) (fun i _ => f.length - (intOf i).toNat)
  case atStart => exact ⟨0, Nat.zero_le _, rfl, Ex.refl _⟩
  case round =>
    obtain ⟨j, hk, rfl, hx⟩ := hrel
    have X : Hid (Ex w wr) := hx
    clear hx
    by_cases hlt : j < f.length
    · obtain ⟨b, o, rfl, _, _, hkk⟩ := XA_at (T.out wr X.out) (by omega)
      obtain ⟨b', o', rfl, _, _, hkk'⟩ := XA_at (T'.out wr X.out) (by omega)
      have e0 := hkk j hlt
      have g0 := hkk' j hlt
      obtain ⟨t, ht⟩ : ∃ t, f.getD j ⟨#[]⟩ = t := ⟨_, rfl⟩
      rw [ht] at e0 g0
      clear hkk hkk' ht
      have KS : Hid (∀ w', Ex wr w' → (Ex wr w' ∧ w'.cell? ⟨b, o + j, none⟩ = some (.string t) ∧ w'.cell? ⟨b', o' + j, none⟩ = some (.string t))) := fun w' h => ⟨h, h.at e0, h.at g0⟩
      have i0 : (0 : Int) ≤ (j : Int) := by omega
      have i1 : (j : Int) < (f.length : Int) := by omega
      go_wp2_with fail
      clear e0 g0
      refine wp_region_held_drew (S := fun w' => Ex wr w' ∧ w'.cell? ⟨b, o + j, none⟩ = some (.string t) ∧ w'.cell? ⟨b', o' + j, none⟩ = some (.string t)) (by kernel_rfl) (KS.out _ (Ex.refl _).drew) (fun hHeld => ?_)
      refine wpAnyH_take (i := 0) (v := ?_) rfl (by kernel_rfl) (by kernel_rfl) (by kernel_rfl) (fun _ _ _ h => h) (Or.inl ⟨by rfl, ?_⟩) (by assumption) ?_
      rotate_left
      · (intro w' hSw; (try dsimp only at hSw); go_simp) <;> with_reducible rfl
      change wpAnyH Tryd.prog _ _ _ _ _ _ (Act.put _ (some 17) _) _
      (try simp only [Act.put, List.setIfInBounds_toArray, List.set_cons_zero, List.set_cons_succ])
      refine wpAnyH_take (i := 1) (v := ?_) rfl (by kernel_rfl) (by kernel_rfl) (by kernel_rfl) (fun _ _ _ h => h) (Or.inl ⟨by rfl, ?_⟩) (by assumption) ?_
      rotate_left
      · (intro w' hSw; (try dsimp only at hSw); go_simp) <;> with_reducible rfl
      change wpAnyH Tryd.prog _ _ _ _ _ _ (Act.put _ (some 18) _) _
      (try simp only [Act.put, List.setIfInBounds_toArray, List.set_cons_zero, List.set_cons_succ])
      refine wpAnyH_take (i := 2) (v := ?_) rfl (by kernel_rfl) (by kernel_rfl) (by kernel_rfl) (fun _ _ _ h => h) (Or.inl ⟨by rfl, ?_⟩) (by assumption) ?_
      rotate_left
      · (intro w' hSw; (try dsimp only at hSw); go_simp) <;> with_reducible rfl
      change wpAnyH Tryd.prog _ _ _ _ _ _ (Act.put _ (some 19) _) _
      (try simp only [Act.put, List.setIfInBounds_toArray, List.set_cons_zero, List.set_cons_succ])
      refine wpAnyH_take (i := 3) (v := ?_) rfl (by kernel_rfl) (by kernel_rfl) (by kernel_rfl) (fun _ _ _ h => h) (Or.inl ⟨by rfl, ?_⟩) (by assumption) ?_
      rotate_left
      · (intro w' hSw; (try dsimp only at hSw); go_simp) <;> with_reducible rfl
      change wpAnyH Tryd.prog _ _ _ _ _ _ (Act.put _ (some 20) _) _
      (try simp only [Act.put, List.setIfInBounds_toArray, List.set_cons_zero, List.set_cons_succ])
      refine wpAnyH_take (i := 4) (v := ?_) rfl (by kernel_rfl) (by kernel_rfl) (by kernel_rfl) (fun _ _ _ h => h) (Or.inl ⟨by rfl, ?_⟩) (by assumption) ?_
      rotate_left
      · (intro w' hSw; (try dsimp only at hSw); go_simp) <;> with_reducible rfl
      change wpAnyH Tryd.prog _ _ _ _ _ _ (Act.put _ (some 21) _) _
      (try simp only [Act.put, List.setIfInBounds_toArray, List.set_cons_zero, List.set_cons_succ])
      refine wpAnyH_take (i := 5) (v := ?_) rfl (by kernel_rfl) (by kernel_rfl) (by kernel_rfl) (fun _ _ _ h => h) (Or.inl ⟨by rfl, ?_⟩) (by assumption) ?_
      rotate_left
      · (intro w' hSw; (try dsimp only at hSw); go_simp) <;> with_reducible rfl
      change wpAnyH Tryd.prog _ _ _ _ _ _ (Act.put _ (some 22) _) _
      (try simp only [Act.put, List.setIfInBounds_toArray, List.set_cons_zero, List.set_cons_succ])
      refine wpAnyH_take (i := 6) (v := ?_) rfl (by kernel_rfl) (by kernel_rfl) (by kernel_rfl) (fun _ _ _ h => h) (Or.inl ⟨by rfl, ?_⟩) (by assumption) ?_
      rotate_left
      · (intro w' hSw; (try dsimp only at hSw); go_simp) <;> with_reducible rfl
      change wpAnyH Tryd.prog _ _ _ _ _ _ (Act.put _ (some 23) _) _
      (try simp only [Act.put, List.setIfInBounds_toArray, List.set_cons_zero, List.set_cons_succ])
      refine wpAnyH_take (i := 7) (v := ?_) rfl (by kernel_rfl) (by kernel_rfl) (by kernel_rfl) (fun _ _ _ h => h) (Or.inl ⟨by rfl, ?_⟩) (by assumption) ?_
      rotate_left
      · (intro w' hSw; (try dsimp only at hSw); go_simp) <;> with_reducible rfl
      change wpAnyH Tryd.prog _ _ _ _ _ _ (Act.put _ (some 24) _) _
      (try simp only [Act.put, List.setIfInBounds_toArray, List.set_cons_zero, List.set_cons_succ])
      refine wpAnyH_take (i := 8) (v := ?_) rfl (by kernel_rfl) (by kernel_rfl) (by kernel_rfl) (fun _ _ _ h => h) (Or.inl ⟨by rfl, ?_⟩) (by assumption) ?_
      rotate_left
      · (intro w' hSw; (try dsimp only at hSw); go_simp) <;> with_reducible rfl
      change wpAnyH Tryd.prog _ _ _ _ _ _ (Act.put _ (some 25) _) _
      (try simp only [Act.put, List.setIfInBounds_toArray, List.set_cons_zero, List.set_cons_succ])
      refine wpAnyH_done (by kernel_rfl) ?_ _
      go_wp2_with fail
      go_roundw
      case rel => exact ⟨j + 1, by omega, by go_num, X.out.trans hHeld.1⟩
      case measure => simp [intOf]; omega
    · go_wp2_with fail
      go_ret
      exact ⟨rfl, X.out⟩

set_option maxRecDepth 100000 in
set_option maxHeartbeats 4000000 in
theorem eqTermS_by (f : TM) (a a' : Option Addr) (c c' : Nat) (w : World) (hl : tlen f ≤ 1000000000) (hT : MA w 0 f a) (hT' : MA w 0 f a')
    (hK : ∀ j, j < tlen f → ∀ (p1 : Option Addr) (q1 : Nat) (a1 : Option Addr) (c1 : Nat) (p2 : Option Addr) (q2 : Nat) (a2 : Option Addr) (c2 : Nat) (w' : World), Ex w w' → PA w' 0 (tpath f j) p1 → MA w' 0 (tkid f j) a1 → PA w' 0 (tpath f j) p2 → MA w' 0 (tkid f j) a2 → Calls Tryd.prog 22 #[.agg #[.int .i64 (tkind f j), .int .i64 (tnum f j), .string (tname f j), .slice p1 (tpath f j).length q1, .slice a1 (tlen (tkid f j)) c1], .agg #[.int .i64 (tkind f j), .int .i64 (tnum f j), .string (tname f j), .slice p2 (tpath f j).length q2, .slice a2 (tlen (tkid f j)) c2]] w' fun e w'' => e = .returned (.bool true) ∧ Ex w' w'') :
    Calls Tryd.prog 53 #[.slice a (tlen f) c, .slice a' (tlen f) c'] w fun e w' => e = .returned (.bool true) ∧ Ex w w' := by
  have T : Hid (∀ w', Ex w w' → MA w' 0 f a) := fun _ h => MA_below hT h
  have T' : Hid (∀ w', Ex w w' → MA w' 0 f a') := fun _ h => MA_below hT' h
  have I : Hid _ := hK
  clear hT hT' hK
  go_enter Tryd.func53, Tryd.ntmps53
  go_wp2_with fail
  go_loopw [5] (fun i wr => ∃ k : Nat, k ≤ tlen f ∧ i = .int .i64 k ∧ Ex w wr) (fun i _ => tlen f - (intOf i).toNat)
  case atStart => exact ⟨0, Nat.zero_le _, rfl, Ex.refl _⟩
  case round =>
    obtain ⟨j, hk, rfl, hx⟩ := hrel
    have X : Hid (Ex w wr) := hx
    clear hx
    by_cases hlt : j < tlen f
    · obtain ⟨b, o, rfl, _, hbs, hkk⟩ := MA_at (T.out wr X.out) (by omega)
      obtain ⟨e0, e1, e2, ⟨p1, q1, e3, y1⟩, a1, c1, e4, y2⟩ := hkk j hlt
      obtain ⟨b', o', rfl, _, hbs', hkk'⟩ := MA_at (T'.out wr X.out) (by omega)
      obtain ⟨g0, g1, g2, ⟨p2, q2, g3, z1⟩, a2, c2, g4, z2⟩ := hkk' j hlt
      have HI : Hid (∀ w', Ex wr w' → _) := fun w' (h : Ex wr w') => I.out j hlt p1 q1 a1 c1 p2 q2 a2 c2 w' (X.out.trans h) (PA_below (PS_pa.1 y1.1) h) (MA_below y2 h) (PA_below (PS_pa.1 z1.1) h) (MA_below z2 h)
      clear hkk hkk' y1 y2 z1 z2
      have KS : Hid (∀ w', Ex wr w' → (Ex wr w' ∧ w'.cell? ⟨b, o + j * 5, none⟩ = some (.int .i64 (tkind f j)) ∧ w'.cell? ⟨b, o + j * 5 + 1, none⟩ = some (.int .i64 (tnum f j)) ∧ w'.cell? ⟨b, o + j * 5 + 2, none⟩ = some (.string (tname f j)) ∧ w'.cell? ⟨b, o + j * 5 + 3, none⟩ = some (.slice p1 (tpath f j).length q1) ∧ w'.cell? ⟨b, o + j * 5 + 4, none⟩ = some (.slice a1 (tlen (tkid f j)) c1) ∧ w'.cell? ⟨b', o' + j * 5, none⟩ = some (.int .i64 (tkind f j)) ∧ w'.cell? ⟨b', o' + j * 5 + 1, none⟩ = some (.int .i64 (tnum f j)) ∧ w'.cell? ⟨b', o' + j * 5 + 2, none⟩ = some (.string (tname f j)) ∧ w'.cell? ⟨b', o' + j * 5 + 3, none⟩ = some (.slice p2 (tpath f j).length q2) ∧ w'.cell? ⟨b', o' + j * 5 + 4, none⟩ = some (.slice a2 (tlen (tkid f j)) c2))) := fun w' h => ⟨h, h.at e0, h.at e1, h.at e2, h.at e3, h.at e4, h.at g0, h.at g1, h.at g2, h.at g3, h.at g4⟩
      have i0 : (0 : Int) ≤ (j : Int) := by omega
      have i1 : (j : Int) < (tlen f : Int) := by omega
      go_wp2_with fail
      clear e0 g0 e1 g1 e2 g2 e3 g3 e4 g4
      refine wp_region_held_drew (S := fun w' => Ex wr w' ∧ w'.cell? ⟨b, o + j * 5, none⟩ = some (.int .i64 (tkind f j)) ∧ w'.cell? ⟨b, o + j * 5 + 1, none⟩ = some (.int .i64 (tnum f j)) ∧ w'.cell? ⟨b, o + j * 5 + 2, none⟩ = some (.string (tname f j)) ∧ w'.cell? ⟨b, o + j * 5 + 3, none⟩ = some (.slice p1 (tpath f j).length q1) ∧ w'.cell? ⟨b, o + j * 5 + 4, none⟩ = some (.slice a1 (tlen (tkid f j)) c1) ∧ w'.cell? ⟨b', o' + j * 5, none⟩ = some (.int .i64 (tkind f j)) ∧ w'.cell? ⟨b', o' + j * 5 + 1, none⟩ = some (.int .i64 (tnum f j)) ∧ w'.cell? ⟨b', o' + j * 5 + 2, none⟩ = some (.string (tname f j)) ∧ w'.cell? ⟨b', o' + j * 5 + 3, none⟩ = some (.slice p2 (tpath f j).length q2) ∧ w'.cell? ⟨b', o' + j * 5 + 4, none⟩ = some (.slice a2 (tlen (tkid f j)) c2)) (by kernel_rfl) (KS.out _ (Ex.refl _).drew) (fun hHeld => ?_)
      refine wpAnyH_take (i := 0) (v := ?_) rfl (by kernel_rfl) (by kernel_rfl) (by kernel_rfl) (fun _ _ _ h => h) (Or.inl ⟨by rfl, ?_⟩) (by assumption) ?_
      rotate_left
      · (intro w' hSw; (try dsimp only at hSw); go_simp) <;> with_reducible rfl
      change wpAnyH Tryd.prog _ _ _ _ _ _ (Act.put _ (some 17) _) _
      (try simp only [Act.put, List.setIfInBounds_toArray, List.set_cons_zero, List.set_cons_succ])
      refine wpAnyH_take (i := 1) (v := ?_) rfl (by kernel_rfl) (by kernel_rfl) (by kernel_rfl) (fun _ _ _ h => h) (Or.inl ⟨by rfl, ?_⟩) (by assumption) ?_
      rotate_left
      · (intro w' hSw; (try dsimp only at hSw); go_simp) <;> with_reducible rfl
      change wpAnyH Tryd.prog _ _ _ _ _ _ (Act.put _ (some 18) _) _
      (try simp only [Act.put, List.setIfInBounds_toArray, List.set_cons_zero, List.set_cons_succ])
      refine wpAnyH_take (i := 2) (v := ?_) rfl (by kernel_rfl) (by kernel_rfl) (by kernel_rfl) (fun _ _ _ h => h) (Or.inl ⟨by rfl, ?_⟩) (by assumption) ?_
      rotate_left
      · (intro w' hSw; (try dsimp only at hSw); go_simp) <;> with_reducible rfl
      change wpAnyH Tryd.prog _ _ _ _ _ _ (Act.put _ (some 19) _) _
      (try simp only [Act.put, List.setIfInBounds_toArray, List.set_cons_zero, List.set_cons_succ])
      refine wpAnyH_take (i := 3) (v := ?_) rfl (by kernel_rfl) (by kernel_rfl) (by kernel_rfl) (fun _ _ _ h => h) (Or.inl ⟨by rfl, ?_⟩) (by assumption) ?_
      rotate_left
      · (intro w' hSw; (try dsimp only at hSw); go_simp) <;> with_reducible rfl
      change wpAnyH Tryd.prog _ _ _ _ _ _ (Act.put _ (some 20) _) _
      (try simp only [Act.put, List.setIfInBounds_toArray, List.set_cons_zero, List.set_cons_succ])
      refine wpAnyH_take (i := 4) (v := ?_) rfl (by kernel_rfl) (by kernel_rfl) (by kernel_rfl) (fun _ _ _ h => h) (Or.inl ⟨by rfl, ?_⟩) (by assumption) ?_
      rotate_left
      · (intro w' hSw; (try dsimp only at hSw); go_simp) <;> with_reducible rfl
      change wpAnyH Tryd.prog _ _ _ _ _ _ (Act.put _ (some 21) _) _
      (try simp only [Act.put, List.setIfInBounds_toArray, List.set_cons_zero, List.set_cons_succ])
      refine wpAnyH_take (i := 5) (v := ?_) rfl (by kernel_rfl) (by kernel_rfl) (by kernel_rfl) (fun _ _ _ h => h) (Or.inl ⟨by rfl, ?_⟩) (by assumption) ?_
      rotate_left
      · (intro w' hSw; (try dsimp only at hSw); go_simp) <;> with_reducible rfl
      change wpAnyH Tryd.prog _ _ _ _ _ _ (Act.put _ (some 22) _) _
      (try simp only [Act.put, List.setIfInBounds_toArray, List.set_cons_zero, List.set_cons_succ])
      refine wpAnyH_take (i := 6) (v := ?_) rfl (by kernel_rfl) (by kernel_rfl) (by kernel_rfl) (fun _ _ _ h => h) (Or.inl ⟨by rfl, ?_⟩) (by assumption) ?_
      rotate_left
      · (intro w' hSw; (try dsimp only at hSw); go_simp) <;> with_reducible rfl
      change wpAnyH Tryd.prog _ _ _ _ _ _ (Act.put _ (some 23) _) _
      (try simp only [Act.put, List.setIfInBounds_toArray, List.set_cons_zero, List.set_cons_succ])
      refine wpAnyH_take (i := 7) (v := ?_) rfl (by kernel_rfl) (by kernel_rfl) (by kernel_rfl) (fun _ _ _ h => h) (Or.inl ⟨by rfl, ?_⟩) (by assumption) ?_
      rotate_left
      · (intro w' hSw; (try dsimp only at hSw); go_simp) <;> with_reducible rfl
      change wpAnyH Tryd.prog _ _ _ _ _ _ (Act.put _ (some 24) _) _
      (try simp only [Act.put, List.setIfInBounds_toArray, List.set_cons_zero, List.set_cons_succ])
      refine wpAnyH_ready (rs := [8]) (by kernel_rfl) (by simp) ?_
      refine AllReadyH.cons (i := 8) rfl (fun K hK => ?_) AllReadyH.nil
      go_simp
      refine (HI.out _ hHeld.1).mono ?_
      rintro e w1 ⟨rfl, hb1⟩
      have hx1 := Ex.trans (And.left hHeld) hb1
      clear hHeld
      go_wp2_with fail
      refine hK.out _ _ ?_ (fun hHeld => ?_)
      · exact KS.out _ hx1
      clear hK
      (try simp only [Act.put, List.setIfInBounds_toArray, List.set_cons_zero, List.set_cons_succ])
      refine wpAnyH_take (i := 9) (v := ?_) rfl (by kernel_rfl) (by kernel_rfl) (by kernel_rfl) (fun _ _ _ h => h) (Or.inl ⟨by rfl, ?_⟩) (by assumption) ?_
      rotate_left
      · (intro w' hSw; (try dsimp only at hSw); go_simp) <;> with_reducible rfl
      change wpAnyH Tryd.prog _ _ _ _ _ _ (Act.put _ (some 26) _) _
      (try simp only [Act.put, List.setIfInBounds_toArray, List.set_cons_zero, List.set_cons_succ])
      refine wpAnyH_done (by kernel_rfl) ?_ _
      go_wp2_with fail
      go_roundw
      case rel => exact ⟨j + 1, by omega, by go_num, X.out.trans hHeld.1⟩
      case measure => simp [intOf]; omega
    · go_wp2_with fail
      go_ret
      exact ⟨rfl, X.out⟩

set_option maxRecDepth 100000 in
set_option maxHeartbeats 2000000 in
theorem eqTerm_by (k n : Int) (s : ByteArray) (p : List Int) (p1 : Option Addr) (q1 : Nat) (p2 : Option Addr) (q2 : Nat) (f : TM) (a1 : Option Addr) (c1 : Nat) (a2 : Option Addr) (c2 : Nat) (w : World) (hp : p.length ≤ 1000000000) (hP1 : PA w 0 p p1) (hP2 : PA w 0 p p2) (hK : ∀ w', Ex w w' → Calls Tryd.prog 53 #[.slice a1 (tlen f) c1, .slice a2 (tlen f) c2] w' fun e w'' => e = .returned (.bool true) ∧ Ex w' w'') :
    Calls Tryd.prog 22 #[.agg #[.int .i64 k, .int .i64 n, .string s, .slice p1 p.length q1, .slice a1 (tlen f) c1], .agg #[.int .i64 k, .int .i64 n, .string s, .slice p2 p.length q2, .slice a2 (tlen f) c2]] w fun e w' => e = .returned (.bool true) ∧ Ex w w' := by
  have H_hP1 : Hid _ := hP1
  clear hP1
  have H_hP2 : Hid _ := hP2
  clear hP2
  have H_hK : Hid _ := hK
  clear hK
  have N : Hid (Ex w ((w.alloc (.cells #[.int .i64 k, .int .i64 n, .string s, .slice p1 p.length q1, .slice a1 (tlen f) c1] 28)).alloc (.cells #[.int .i64 k, .int .i64 n, .string s, .slice p2 p.length q2, .slice a2 (tlen f) c2] 28))) := (Ex.new _ _).alloc _
  have C : Hid (∀ w', Ex ((w.alloc (.cells #[.int .i64 k, .int .i64 n, .string s, .slice p1 p.length q1, .slice a1 (tlen f) c1] 28)).alloc (.cells #[.int .i64 k, .int .i64 n, .string s, .slice p2 p.length q2, .slice a2 (tlen f) c2] 28)) w' → w'.cell? ⟨w.heap.size, 0, none⟩ = some (.int .i64 k) ∧ w'.cell? ⟨w.heap.size, 1, none⟩ = some (.int .i64 n) ∧ w'.cell? ⟨w.heap.size, 2, none⟩ = some (.string s) ∧ w'.cell? ⟨w.heap.size, 3, none⟩ = some (.slice p1 p.length q1) ∧ w'.cell? ⟨w.heap.size, 4, none⟩ = some (.slice a1 (tlen f) c1) ∧ w'.cell? ⟨w.heap.size + 1, 0, none⟩ = some (.int .i64 k) ∧ w'.cell? ⟨w.heap.size + 1, 1, none⟩ = some (.int .i64 n) ∧ w'.cell? ⟨w.heap.size + 1, 2, none⟩ = some (.string s) ∧ w'.cell? ⟨w.heap.size + 1, 3, none⟩ = some (.slice p2 p.length q2) ∧ w'.cell? ⟨w.heap.size + 1, 4, none⟩ = some (.slice a2 (tlen f) c2)) := fun w' h => ⟨h.at (by simp), h.at (by simp), h.at (by simp), h.at (by simp), h.at (by simp), h.at (by simp), h.at (by simp), h.at (by simp), h.at (by simp), h.at (by simp)⟩
  go_enter Tryd.func22, Tryd.ntmps22
  go_wp2_with fail
  refine (eqIntS_same p p1 p2 q1 q2 _ hp (PA_below H_hP1.out N.out) (PA_below H_hP2.out N.out)).mono ?_
  rintro e w1 ⟨rfl, hb1⟩
  have X1 : Hid (Ex ((w.alloc (.cells #[.int .i64 k, .int .i64 n, .string s, .slice p1 p.length q1, .slice a1 (tlen f) c1] 28)).alloc (.cells #[.int .i64 k, .int .i64 n, .string s, .slice p2 p.length q2, .slice a2 (tlen f) c2] 28)) w1) := hb1
  clear hb1
  obtain ⟨cA0, cA1, cA2, cA3, cA4, cB0, cB1, cB2, cB3, cB4⟩ := C.out w1 X1.out
  go_wp2_with fail
  refine (H_hK.out _ (N.out.trans X1.out)).mono ?_
  rintro e w2 ⟨rfl, hb2⟩
  have X2 : Hid (Ex ((w.alloc (.cells #[.int .i64 k, .int .i64 n, .string s, .slice p1 p.length q1, .slice a1 (tlen f) c1] 28)).alloc (.cells #[.int .i64 k, .int .i64 n, .string s, .slice p2 p.length q2, .slice a2 (tlen f) c2] 28)) w2) := X1.out.trans hb2
  clear hb2 cA0 cA1 cA2 cA3 cA4 cB0 cB1 cB2 cB3 cB4
  obtain ⟨cA0, cA1, cA2, cA3, cA4, cB0, cB1, cB2, cB3, cB4⟩ := C.out w2 X2.out
  go_wp2_with fail
  go_ret
  exact ⟨rfl, N.out.trans X2.out⟩

theorem eqTermS_all : ∀ (d : Nat) (f : TM) (a a' : Option Addr) (c c' : Nat) (w : World), tdep f < d → tlen f ≤ 1000000000 → TSm f → MA w 0 f a → MA w 0 f a' →
    Calls Tryd.prog 53 #[.slice a (tlen f) c, .slice a' (tlen f) c'] w fun e w' => e = .returned (.bool true) ∧ Ex w w' := by
  intro d
  induction d with
  | zero => intro f a a' c c' w hd; omega
  | succ d ih =>
    intro f a a' c c' w hd hl hm hT hT'
    refine eqTermS_by f a a' c c' w hl hT hT' fun j hj p1 q1 a1 c1 p2 q2 a2 c2 w' hx y1 y2 z1 z2 => ?_
    obtain ⟨g1, g2, g3⟩ := TSm_kid hm j hj
    have hdj := tdep_kid f j hj
    exact eqTerm_by _ _ _ _ p1 q1 p2 q2 _ a1 c1 a2 c2 w' g1 y1 z1 (fun w2 hx2 => ih _ a1 a2 c1 c2 w2 (by omega) g2 g3 (MA_below y2 hx2) (MA_below z2 hx2))

theorem eqTermS_same (f : TM) (a a' : Option Addr) (c c' : Nat) (w : World) (hl : tlen f ≤ 1000000000) (hm : TSm f) (hT : MA w 0 f a) (hT' : MA w 0 f a') :
    Calls Tryd.prog 53 #[.slice a (tlen f) c, .slice a' (tlen f) c'] w fun e w' => e = .returned (.bool true) ∧ Ex w w' := eqTermS_all (tdep f + 1) f a a' c c' w (by omega) hl hm hT hT'

end Go.Proofs.YthdihpcpobhadaaDoor
