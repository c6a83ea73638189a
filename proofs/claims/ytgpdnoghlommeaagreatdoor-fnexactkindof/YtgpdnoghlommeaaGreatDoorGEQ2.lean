/- Walks: the same texts and terms compared. Walks: the same bindings, bodies and functions compared. -/
import Derived.Test.YtgpdnoghlommeaaGreatDoorGE1
import Derived.Test.YtgpdnoghlommeaaGreatDoorGTO0
import Derived.Deep.RegionHeld3
import Derived.Test.YtgpdnoghlommeaaGreatDoorTO2
namespace Go.Proofs.YtgpdnoghlommeaaGreatDoor

open Go.RowKit Go.Deep

attribute [local go_sem ↓] Go.wp_at_zero Go.wp_at_succ

set_option maxRecDepth 100000 in
set_option maxHeartbeats 2000000 in
theorem eqTexts_same (f : List ByteArray) (a a' : Option Addr) (c c' : Nat) (w : World) (hl : f.length ≤ 1000000000) (hT : XA w 0 f a) (hT' : XA w 0 f a') :
    Calls Tryz.prog 62 #[.slice a f.length c, .slice a' f.length c'] w fun e w' => e = .returned (.bool true) ∧ Ex w w' := by
  have T : Hid (∀ w', Ex w w' → XA w' 0 f a) := fun _ h => XA_below hT h
  have T' : Hid (∀ w', Ex w w' → XA w' 0 f a') := fun _ h => XA_below hT' h
  clear hT hT'
  go_enter Tryz.func62, Tryz.ntmps62
  go_wp2_with fail
  go_loopw [5] (fun i wr => ∃ k : Nat, k ≤ f.length ∧ i = .int .i64 k ∧ Ex w wr) (fun i _ => f.length - (intOf i).toNat)
  case atStart => exact ⟨0, Nat.zero_le _, rfl, Ex.refl _⟩
  case round =>
    obtain ⟨j, hk, rfl, hx⟩ := hrel
    have X : Hid (Ex w wr) := hx
    clear hx
    by_cases hlt : j < f.length
    · obtain ⟨b, o, rfl, _, _, hkk⟩ := XA_at (T.out wr X.out) (by omega)
      obtain ⟨b', o', rfl, _, _, hkk'⟩ := XA_at (T'.out wr X.out) (by omega)
      have e0 := hkk j hlt
      have g0 := hkk' j hlt
      obtain ⟨t, ht⟩ : ∃ t, f.getD j ⟨#[]⟩ = t := ⟨_, rfl⟩
      rw [ht] at e0 g0
      clear hkk hkk' ht
      have KS : Hid (∀ w', Ex wr w' → (Ex wr w' ∧ w'.cell? ⟨b, o + j, none⟩ = some (.string t) ∧ w'.cell? ⟨b', o' + j, none⟩ = some (.string t))) := fun w' h => ⟨h, h.at e0, h.at g0⟩
      have i0 : (0 : Int) ≤ (j : Int) := by omega
      have i1 : (j : Int) < (f.length : Int) := by omega
      go_wp2_with fail
      clear e0 g0
      refine wp_region_held_drew (S := fun w' => Ex wr w' ∧ w'.cell? ⟨b, o + j, none⟩ = some (.string t) ∧ w'.cell? ⟨b', o' + j, none⟩ = some (.string t)) (by kernel_rfl) (KS.out _ (Ex.refl _).drew) (fun hHeld => ?_)
      refine wpAnyH_take (i := 0) (v := ?_) rfl (by kernel_rfl) (by kernel_rfl) (by kernel_rfl) (fun _ _ _ h => h) (Or.inl ⟨by rfl, ?_⟩) (by assumption) ?_
      rotate_left
      · (intro w' hSw; (try dsimp only at hSw); go_simp) <;> with_reducible rfl
      change wpAnyH Tryz.prog _ _ _ _ _ _ (Act.put _ (some 17) _) _
      (try simp only [Act.put, List.setIfInBounds_toArray, List.set_cons_zero, List.set_cons_succ])
      refine wpAnyH_take (i := 1) (v := ?_) rfl (by kernel_rfl) (by kernel_rfl) (by kernel_rfl) (fun _ _ _ h => h) (Or.inl ⟨by rfl, ?_⟩) (by assumption) ?_
      rotate_left
      · (intro w' hSw; (try dsimp only at hSw); go_simp) <;> with_reducible rfl
      change wpAnyH Tryz.prog _ _ _ _ _ _ (Act.put _ (some 18) _) _
      (try simp only [Act.put, List.setIfInBounds_toArray, List.set_cons_zero, List.set_cons_succ])
      refine wpAnyH_take (i := 2) (v := ?_) rfl (by kernel_rfl) (by kernel_rfl) (by kernel_rfl) (fun _ _ _ h => h) (Or.inl ⟨by rfl, ?_⟩) (by assumption) ?_
      rotate_left
      · (intro w' hSw; (try dsimp only at hSw); go_simp) <;> with_reducible rfl
      change wpAnyH Tryz.prog _ _ _ _ _ _ (Act.put _ (some 19) _) _
      (try simp only [Act.put, List.setIfInBounds_toArray, List.set_cons_zero, List.set_cons_succ])
      refine wpAnyH_take (i := 3) (v := ?_) rfl (by kernel_rfl) (by kernel_rfl) (by kernel_rfl) (fun _ _ _ h => h) (Or.inl ⟨by rfl, ?_⟩) (by assumption) ?_
      rotate_left
      · (intro w' hSw; (try dsimp only at hSw); go_simp) <;> with_reducible rfl
      change wpAnyH Tryz.prog _ _ _ _ _ _ (Act.put _ (some 20) _) _
      (try simp only [Act.put, List.setIfInBounds_toArray, List.set_cons_zero, List.set_cons_succ])
      refine wpAnyH_take (i := 4) (v := ?_) rfl (by kernel_rfl) (by kernel_rfl) (by kernel_rfl) (fun _ _ _ h => h) (Or.inl ⟨by rfl, ?_⟩) (by assumption) ?_
      rotate_left
      · (intro w' hSw; (try dsimp only at hSw); go_simp) <;> with_reducible rfl
      change wpAnyH Tryz.prog _ _ _ _ _ _ (Act.put _ (some 21) _) _
      (try simp only [Act.put, List.setIfInBounds_toArray, List.set_cons_zero, List.set_cons_succ])
      refine wpAnyH_take (i := 5) (v := ?_) rfl (by kernel_rfl) (by kernel_rfl) (by kernel_rfl) (fun _ _ _ h => h) (Or.inl ⟨by rfl, ?_⟩) (by assumption) ?_
      rotate_left
      · (intro w' hSw; (try dsimp only at hSw); go_simp) <;> with_reducible rfl
      change wpAnyH Tryz.prog _ _ _ _ _ _ (Act.put _ (some 22) _) _
      (try simp only [Act.put, List.setIfInBounds_toArray, List.set_cons_zero, List.set_cons_succ])
      refine wpAnyH_take (i := 6) (v := ?_) rfl (by kernel_rfl) (by kernel_rfl) (by kernel_rfl) (fun _ _ _ h => h) (Or.inl ⟨by rfl, ?_⟩) (by assumption) ?_
      rotate_left
      · (intro w' hSw; (try dsimp only at hSw); go_simp) <;> with_reducible rfl
      change wpAnyH Tryz.prog _ _ _ _ _ _ (Act.put _ (some 23) _) _
      (try simp only [Act.put, List.setIfInBounds_toArray, List.set_cons_zero, List.set_cons_succ])
      refine wpAnyH_take (i := 7) (v := ?_) rfl (by kernel_rfl) (by kernel_rfl) (by kernel_rfl) (fun _ _ _ h => h) (Or.inl ⟨by rfl, ?_⟩) (by assumption) ?_
      rotate_left
      · (intro w' hSw; (try dsimp only at hSw); go_simp) <;> with_reducible rfl
      change wpAnyH Tryz.prog _ _ _ _ _ _ (Act.put _ (some 24) _) _
      (try simp only [Act.put, List.setIfInBounds_toArray, List.set_cons_zero, List.set_cons_succ])
      refine wpAnyH_take (i := 8) (v := ?_) rfl (by kernel_rfl) (by kernel_rfl) (by kernel_rfl) (fun _ _ _ h => h) (Or.inl ⟨by rfl, ?_⟩) (by assumption) ?_
      rotate_left
      · (intro w' hSw; (try dsimp only at hSw); go_simp) <;> with_reducible rfl
      change wpAnyH Tryz.prog _ _ _ _ _ _ (Act.put _ (some 25) _) _
      (try simp only [Act.put, List.setIfInBounds_toArray, List.set_cons_zero, List.set_cons_succ])
      refine wpAnyH_done (by kernel_rfl) ?_ _
      go_wp2_with fail
      go_roundw
      case rel => exact ⟨j + 1, by omega, by go_num, X.out.trans hHeld.1⟩
      case measure => simp [intOf]; omega
    · go_wp2_with fail
      go_ret
      exact ⟨rfl, X.out⟩

set_option maxRecDepth 100000 in
set_option maxHeartbeats 4000000 in
theorem eqTermS_by (f : TM) (a a' : Option Addr) (c c' : Nat) (w : World) (hl : tlen f ≤ 1000000000) (hT : MA w 0 f a) (hT' : MA w 0 f a')
    (hK : ∀ j, j < tlen f → ∀ (p1 : Option Addr) (q1 : Nat) (a1 : Option Addr) (c1 : Nat) (p2 : Option Addr) (q2 : Nat) (a2 : Option Addr) (c2 : Nat) (w' : World), Ex w w' → PA w' 0 (tpath f j) p1 → MA w' 0 (tkid f j) a1 → PA w' 0 (tpath f j) p2 → MA w' 0 (tkid f j) a2 → Calls Tryz.prog 120 #[.agg #[.int .i64 (tkind f j), .int .i64 (tnum f j), .string (tname f j), .slice p1 (tpath f j).length q1, .slice a1 (tlen (tkid f j)) c1], .agg #[.int .i64 (tkind f j), .int .i64 (tnum f j), .string (tname f j), .slice p2 (tpath f j).length q2, .slice a2 (tlen (tkid f j)) c2]] w' fun e w'' => e = .returned (.bool true) ∧ Ex w' w'') :
    Calls Tryz.prog 90 #[.slice a (tlen f) c, .slice a' (tlen f) c'] w fun e w' => e = .returned (.bool true) ∧ Ex w w' := by
  have T : Hid (∀ w', Ex w w' → MA w' 0 f a) := fun _ h => MA_below hT h
  have T' : Hid (∀ w', Ex w w' → MA w' 0 f a') := fun _ h => MA_below hT' h
  have I : Hid _ := hK
  clear hT hT' hK
  go_enter Tryz.func90, Tryz.ntmps90
  go_wp2_with fail
  go_loopw [5] (fun i wr => ∃ k : Nat, k ≤ tlen f ∧ i = .int .i64 k ∧ Ex w wr) (fun i _ => tlen f - (intOf i).toNat)
  case atStart => exact ⟨0, Nat.zero_le _, rfl, Ex.refl _⟩
  case round =>
    obtain ⟨j, hk, rfl, hx⟩ := hrel
    have X : Hid (Ex w wr) := hx
    clear hx
    by_cases hlt : j < tlen f
    · obtain ⟨b, o, rfl, _, hbs, hkk⟩ := MA_at (T.out wr X.out) (by omega)
      obtain ⟨e0, e1, e2, ⟨p1, q1, e3, y1⟩, a1, c1, e4, y2⟩ := hkk j hlt
      obtain ⟨b', o', rfl, _, hbs', hkk'⟩ := MA_at (T'.out wr X.out) (by omega)
      obtain ⟨g0, g1, g2, ⟨p2, q2, g3, z1⟩, a2, c2, g4, z2⟩ := hkk' j hlt
      have HI : Hid (∀ w', Ex wr w' → _) := fun w' (h : Ex wr w') => I.out j hlt p1 q1 a1 c1 p2 q2 a2 c2 w' (X.out.trans h) (PA_below (PS_pa.1 y1.1) h) (MA_below y2 h) (PA_below (PS_pa.1 z1.1) h) (MA_below z2 h)
      clear hkk hkk' y1 y2 z1 z2
      have KS : Hid (∀ w', Ex wr w' → (Ex wr w' ∧ w'.cell? ⟨b, o + j * 5, none⟩ = some (.int .i64 (tkind f j)) ∧ w'.cell? ⟨b, o + j * 5 + 1, none⟩ = some (.int .i64 (tnum f j)) ∧ w'.cell? ⟨b, o + j * 5 + 2, none⟩ = some (.string (tname f j)) ∧ w'.cell? ⟨b, o + j * 5 + 3, none⟩ = some (.slice p1 (tpath f j).length q1) ∧ w'.cell? ⟨b, o + j * 5 + 4, none⟩ = some (.slice a1 (tlen (tkid f j)) c1) ∧ w'.cell? ⟨b', o' + j * 5, none⟩ = some (.int .i64 (tkind f j)) ∧ w'.cell? ⟨b', o' + j * 5 + 1, none⟩ = some (.int .i64 (tnum f j)) ∧ w'.cell? ⟨b', o' + j * 5 + 2, none⟩ = some (.string (tname f j)) ∧ w'.cell? ⟨b', o' + j * 5 + 3, none⟩ = some (.slice p2 (tpath f j).length q2) ∧ w'.cell? ⟨b', o' + j * 5 + 4, none⟩ = some (.slice a2 (tlen (tkid f j)) c2))) := fun w' h => ⟨h, h.at e0, h.at e1, h.at e2, h.at e3, h.at e4, h.at g0, h.at g1, h.at g2, h.at g3, h.at g4⟩
      have i0 : (0 : Int) ≤ (j : Int) := by omega
      have i1 : (j : Int) < (tlen f : Int) := by omega
      go_wp2_with fail
      clear e0 g0 e1 g1 e2 g2 e3 g3 e4 g4
      refine wp_region_held_drew (S := fun w' => Ex wr w' ∧ w'.cell? ⟨b, o + j * 5, none⟩ = some (.int .i64 (tkind f j)) ∧ w'.cell? ⟨b, o + j * 5 + 1, none⟩ = some (.int .i64 (tnum f j)) ∧ w'.cell? ⟨b, o + j * 5 + 2, none⟩ = some (.string (tname f j)) ∧ w'.cell? ⟨b, o + j * 5 + 3, none⟩ = some (.slice p1 (tpath f j).length q1) ∧ w'.cell? ⟨b, o + j * 5 + 4, none⟩ = some (.slice a1 (tlen (tkid f j)) c1) ∧ w'.cell? ⟨b', o' + j * 5, none⟩ = some (.int .i64 (tkind f j)) ∧ w'.cell? ⟨b', o' + j * 5 + 1, none⟩ = some (.int .i64 (tnum f j)) ∧ w'.cell? ⟨b', o' + j * 5 + 2, none⟩ = some (.string (tname f j)) ∧ w'.cell? ⟨b', o' + j * 5 + 3, none⟩ = some (.slice p2 (tpath f j).length q2) ∧ w'.cell? ⟨b', o' + j * 5 + 4, none⟩ = some (.slice a2 (tlen (tkid f j)) c2)) (by kernel_rfl) (KS.out _ (Ex.refl _).drew) (fun hHeld => ?_)
      refine wpAnyH_take (i := 0) (v := ?_) rfl (by kernel_rfl) (by kernel_rfl) (by kernel_rfl) (fun _ _ _ h => h) (Or.inl ⟨by rfl, ?_⟩) (by assumption) ?_
      rotate_left
      · (intro w' hSw; (try dsimp only at hSw); go_simp) <;> with_reducible rfl
      change wpAnyH Tryz.prog _ _ _ _ _ _ (Act.put _ (some 17) _) _
      (try simp only [Act.put, List.setIfInBounds_toArray, List.set_cons_zero, List.set_cons_succ])
      refine wpAnyH_take (i := 1) (v := ?_) rfl (by kernel_rfl) (by kernel_rfl) (by kernel_rfl) (fun _ _ _ h => h) (Or.inl ⟨by rfl, ?_⟩) (by assumption) ?_
      rotate_left
      · (intro w' hSw; (try dsimp only at hSw); go_simp) <;> with_reducible rfl
      change wpAnyH Tryz.prog _ _ _ _ _ _ (Act.put _ (some 18) _) _
      (try simp only [Act.put, List.setIfInBounds_toArray, List.set_cons_zero, List.set_cons_succ])
      refine wpAnyH_take (i := 2) (v := ?_) rfl (by kernel_rfl) (by kernel_rfl) (by kernel_rfl) (fun _ _ _ h => h) (Or.inl ⟨by rfl, ?_⟩) (by assumption) ?_
      rotate_left
      · (intro w' hSw; (try dsimp only at hSw); go_simp) <;> with_reducible rfl
      change wpAnyH Tryz.prog _ _ _ _ _ _ (Act.put _ (some 19) _) _
      (try simp only [Act.put, List.setIfInBounds_toArray, List.set_cons_zero, List.set_cons_succ])
      refine wpAnyH_take (i := 3) (v := ?_) rfl (by kernel_rfl) (by kernel_rfl) (by kernel_rfl) (fun _ _ _ h => h) (Or.inl ⟨by rfl, ?_⟩) (by assumption) ?_
      rotate_left
      · (intro w' hSw; (try dsimp only at hSw); go_simp) <;> with_reducible rfl
      change wpAnyH Tryz.prog _ _ _ _ _ _ (Act.put _ (some 20) _) _
      (try simp only [Act.put, List.setIfInBounds_toArray, List.set_cons_zero, List.set_cons_succ])
      refine wpAnyH_take (i := 4) (v := ?_) rfl (by kernel_rfl) (by kernel_rfl) (by kernel_rfl) (fun _ _ _ h => h) (Or.inl ⟨by rfl, ?_⟩) (by assumption) ?_
      rotate_left
      · (intro w' hSw; (try dsimp only at hSw); go_simp) <;> with_reducible rfl
      change wpAnyH Tryz.prog _ _ _ _ _ _ (Act.put _ (some 21) _) _
      (try simp only [Act.put, List.setIfInBounds_toArray, List.set_cons_zero, List.set_cons_succ])
      refine wpAnyH_take (i := 5) (v := ?_) rfl (by kernel_rfl) (by kernel_rfl) (by kernel_rfl) (fun _ _ _ h => h) (Or.inl ⟨by rfl, ?_⟩) (by assumption) ?_
      rotate_left
      · (intro w' hSw; (try dsimp only at hSw); go_simp) <;> with_reducible rfl
      change wpAnyH Tryz.prog _ _ _ _ _ _ (Act.put _ (some 22) _) _
      (try simp only [Act.put, List.setIfInBounds_toArray, List.set_cons_zero, List.set_cons_succ])
      refine wpAnyH_take (i := 6) (v := ?_) rfl (by kernel_rfl) (by kernel_rfl) (by kernel_rfl) (fun _ _ _ h => h) (Or.inl ⟨by rfl, ?_⟩) (by assumption) ?_
      rotate_left
      · (intro w' hSw; (try dsimp only at hSw); go_simp) <;> with_reducible rfl
      change wpAnyH Tryz.prog _ _ _ _ _ _ (Act.put _ (some 23) _) _
      (try simp only [Act.put, List.setIfInBounds_toArray, List.set_cons_zero, List.set_cons_succ])
      refine wpAnyH_take (i := 7) (v := ?_) rfl (by kernel_rfl) (by kernel_rfl) (by kernel_rfl) (fun _ _ _ h => h) (Or.inl ⟨by rfl, ?_⟩) (by assumption) ?_
      rotate_left
      · (intro w' hSw; (try dsimp only at hSw); go_simp) <;> with_reducible rfl
      change wpAnyH Tryz.prog _ _ _ _ _ _ (Act.put _ (some 24) _) _
      (try simp only [Act.put, List.setIfInBounds_toArray, List.set_cons_zero, List.set_cons_succ])
      refine wpAnyH_ready (rs := [8]) (by kernel_rfl) (by simp) ?_
      refine AllReadyH.cons (i := 8) rfl (fun K hK => ?_) AllReadyH.nil
      go_simp
      refine (HI.out _ hHeld.1).mono ?_
      rintro e w1 ⟨rfl, hb1⟩
      have hx1 := Ex.trans (And.left hHeld) hb1
      clear hHeld
      go_wp2_with fail
      refine hK.out _ _ ?_ (fun hHeld => ?_)
      · exact KS.out _ hx1
      clear hK
      (try simp only [Act.put, List.setIfInBounds_toArray, List.set_cons_zero, List.set_cons_succ])
      refine wpAnyH_take (i := 9) (v := ?_) rfl (by kernel_rfl) (by kernel_rfl) (by kernel_rfl) (fun _ _ _ h => h) (Or.inl ⟨by rfl, ?_⟩) (by assumption) ?_
      rotate_left
      · (intro w' hSw; (try dsimp only at hSw); go_simp) <;> with_reducible rfl
      change wpAnyH Tryz.prog _ _ _ _ _ _ (Act.put _ (some 26) _) _
      (try simp only [Act.put, List.setIfInBounds_toArray, List.set_cons_zero, List.set_cons_succ])
      refine wpAnyH_done (by kernel_rfl) ?_ _
      go_wp2_with fail
      go_roundw
      case rel => exact ⟨j + 1, by omega, by go_num, X.out.trans hHeld.1⟩
      case measure => simp [intOf]; omega
    · go_wp2_with fail
      go_ret
      exact ⟨rfl, X.out⟩

set_option maxRecDepth 100000 in
set_option maxHeartbeats 2000000 in
theorem eqTerm_by (k n : Int) (s : ByteArray) (p : List Int) (p1 : Option Addr) (q1 : Nat) (p2 : Option Addr) (q2 : Nat) (f : TM) (a1 : Option Addr) (c1 : Nat) (a2 : Option Addr) (c2 : Nat) (w : World) (hp : p.length ≤ 1000000000) (hP1 : PA w 0 p p1) (hP2 : PA w 0 p p2) (hK : ∀ w', Ex w w' → Calls Tryz.prog 90 #[.slice a1 (tlen f) c1, .slice a2 (tlen f) c2] w' fun e w'' => e = .returned (.bool true) ∧ Ex w' w'') :
    Calls Tryz.prog 120 #[.agg #[.int .i64 k, .int .i64 n, .string s, .slice p1 p.length q1, .slice a1 (tlen f) c1], .agg #[.int .i64 k, .int .i64 n, .string s, .slice p2 p.length q2, .slice a2 (tlen f) c2]] w fun e w' => e = .returned (.bool true) ∧ Ex w w' := by
  have H_hP1 : Hid _ := hP1
  clear hP1
  have H_hP2 : Hid _ := hP2
  clear hP2
  have H_hK : Hid _ := hK
  clear hK
  have N : Hid (Ex w ((w.alloc (.cells #[.int .i64 k, .int .i64 n, .string s, .slice p1 p.length q1, .slice a1 (tlen f) c1] 90)).alloc (.cells #[.int .i64 k, .int .i64 n, .string s, .slice p2 p.length q2, .slice a2 (tlen f) c2] 90))) := (Ex.new _ _).alloc _
  have C : Hid (∀ w', Ex ((w.alloc (.cells #[.int .i64 k, .int .i64 n, .string s, .slice p1 p.length q1, .slice a1 (tlen f) c1] 90)).alloc (.cells #[.int .i64 k, .int .i64 n, .string s, .slice p2 p.length q2, .slice a2 (tlen f) c2] 90)) w' → w'.cell? ⟨w.heap.size, 0, none⟩ = some (.int .i64 k) ∧ w'.cell? ⟨w.heap.size, 1, none⟩ = some (.int .i64 n) ∧ w'.cell? ⟨w.heap.size, 2, none⟩ = some (.string s) ∧ w'.cell? ⟨w.heap.size, 3, none⟩ = some (.slice p1 p.length q1) ∧ w'.cell? ⟨w.heap.size, 4, none⟩ = some (.slice a1 (tlen f) c1) ∧ w'.cell? ⟨w.heap.size + 1, 0, none⟩ = some (.int .i64 k) ∧ w'.cell? ⟨w.heap.size + 1, 1, none⟩ = some (.int .i64 n) ∧ w'.cell? ⟨w.heap.size + 1, 2, none⟩ = some (.string s) ∧ w'.cell? ⟨w.heap.size + 1, 3, none⟩ = some (.slice p2 p.length q2) ∧ w'.cell? ⟨w.heap.size + 1, 4, none⟩ = some (.slice a2 (tlen f) c2)) := fun w' h => ⟨h.at (by simp), h.at (by simp), h.at (by simp), h.at (by simp), h.at (by simp), h.at (by simp), h.at (by simp), h.at (by simp), h.at (by simp), h.at (by simp)⟩
  go_enter Tryz.func120, Tryz.ntmps120
  go_wp2_with fail
  refine (eqIntS_same p p1 p2 q1 q2 _ hp (PA_below H_hP1.out N.out) (PA_below H_hP2.out N.out)).mono ?_
  rintro e w1 ⟨rfl, hb1⟩
  have X1 : Hid (Ex ((w.alloc (.cells #[.int .i64 k, .int .i64 n, .string s, .slice p1 p.length q1, .slice a1 (tlen f) c1] 90)).alloc (.cells #[.int .i64 k, .int .i64 n, .string s, .slice p2 p.length q2, .slice a2 (tlen f) c2] 90)) w1) := hb1
  clear hb1
  obtain ⟨cA0, cA1, cA2, cA3, cA4, cB0, cB1, cB2, cB3, cB4⟩ := C.out w1 X1.out
  go_wp2_with fail
  refine (H_hK.out _ (N.out.trans X1.out)).mono ?_
  rintro e w2 ⟨rfl, hb2⟩
  have X2 : Hid (Ex ((w.alloc (.cells #[.int .i64 k, .int .i64 n, .string s, .slice p1 p.length q1, .slice a1 (tlen f) c1] 90)).alloc (.cells #[.int .i64 k, .int .i64 n, .string s, .slice p2 p.length q2, .slice a2 (tlen f) c2] 90)) w2) := X1.out.trans hb2
  clear hb2 cA0 cA1 cA2 cA3 cA4 cB0 cB1 cB2 cB3 cB4
  obtain ⟨cA0, cA1, cA2, cA3, cA4, cB0, cB1, cB2, cB3, cB4⟩ := C.out w2 X2.out
  go_wp2_with fail
  go_ret
  exact ⟨rfl, N.out.trans X2.out⟩

theorem eqTermS_all : ∀ (d : Nat) (f : TM) (a a' : Option Addr) (c c' : Nat) (w : World), tdep f < d → tlen f ≤ 1000000000 → TSm f → MA w 0 f a → MA w 0 f a' →
    Calls Tryz.prog 90 #[.slice a (tlen f) c, .slice a' (tlen f) c'] w fun e w' => e = .returned (.bool true) ∧ Ex w w' := by
  intro d
  induction d with
  | zero => intro f a a' c c' w hd; omega
  | succ d ih =>
    intro f a a' c c' w hd hl hm hT hT'
    refine eqTermS_by f a a' c c' w hl hT hT' fun j hj p1 q1 a1 c1 p2 q2 a2 c2 w' hx y1 y2 z1 z2 => ?_
    obtain ⟨g1, g2, g3⟩ := TSm_kid hm j hj
    have hdj := tdep_kid f j hj
    exact eqTerm_by _ _ _ _ p1 q1 p2 q2 _ a1 c1 a2 c2 w' g1 y1 z1 (fun w2 hx2 => ih _ a1 a2 c1 c2 w2 (by omega) g2 g3 (MA_below y2 hx2) (MA_below z2 hx2))

theorem eqTermS_same (f : TM) (a a' : Option Addr) (c c' : Nat) (w : World) (hl : tlen f ≤ 1000000000) (hm : TSm f) (hT : MA w 0 f a) (hT' : MA w 0 f a') :
    Calls Tryz.prog 90 #[.slice a (tlen f) c, .slice a' (tlen f) c'] w fun e w' => e = .returned (.bool true) ∧ Ex w w' := eqTermS_all (tdep f + 1) f a a' c c' w (by omega) hl hm hT hT'

end Go.Proofs.YtgpdnoghlommeaaGreatDoor

namespace Go.Proofs.YtgpdnoghlommeaaGreatDoor

open Go.RowKit Go.Deep

attribute [local go_sem ↓] Go.wp_at_zero Go.wp_at_succ

set_option maxRecDepth 100000 in
set_option maxHeartbeats 4000000 in
theorem eqBindS_by (f : BD) (a a' : Option Addr) (c c' : Nat) (w : World) (hl : blen f ≤ 1000000000) (hT : BA w 0 f a) (hT' : BA w 0 f a')
    (hK : ∀ j, j < blen f → ∀ (u1 : Option Addr) (k1 : Nat) (u3 : Option Addr) (k3 : Nat) (u4 : Option Addr) (k4 : Nat) (u5 : Option Addr) (k5 : Nat) (u6 : Option Addr) (k6 : Nat) (u7 : Option Addr) (k7 : Nat) (v1 : Option Addr) (l1 : Nat) (v3 : Option Addr) (l3 : Nat) (v4 : Option Addr) (l4 : Nat) (v5 : Option Addr) (l5 : Nat) (v6 : Option Addr) (l6 : Nat) (v7 : Option Addr) (l7 : Nat) (w' : World), Ex w w' → XA w' 0 (bnames f j) u1 → MA w' 0 (bterms f j) u3 → BA w' 0 (bthen f j) u4 → MA w' 0 (btsay f j) u5 → BA w' 0 (belse f j) u6 → MA w' 0 (besay f j) u7 → XA w' 0 (bnames f j) v1 → MA w' 0 (bterms f j) v3 → BA w' 0 (bthen f j) v4 → MA w' 0 (btsay f j) v5 → BA w' 0 (belse f j) v6 → MA w' 0 (besay f j) v7 → Calls Tryz.prog 119 #[.agg #[.int .i64 (bkind f j), .slice u1 (bnames f j).length k1, .string (bfn f j), .slice u3 (tlen (bterms f j)) k3, .slice u4 (blen (bthen f j)) k4, .slice u5 (tlen (btsay f j)) k5, .slice u6 (blen (belse f j)) k6, .slice u7 (tlen (besay f j)) k7], .agg #[.int .i64 (bkind f j), .slice v1 (bnames f j).length l1, .string (bfn f j), .slice v3 (tlen (bterms f j)) l3, .slice v4 (blen (bthen f j)) l4, .slice v5 (tlen (btsay f j)) l5, .slice v6 (blen (belse f j)) l6, .slice v7 (tlen (besay f j)) l7]] w' fun e w'' => e = .returned (.bool true) ∧ Ex w' w'') :
    Calls Tryz.prog 89 #[.slice a (blen f) c, .slice a' (blen f) c'] w fun e w' => e = .returned (.bool true) ∧ Ex w w' := by
  have T : Hid (∀ w', Ex w w' → BA w' 0 f a) := fun _ h => BA_below hT h
  have T' : Hid (∀ w', Ex w w' → BA w' 0 f a') := fun _ h => BA_below hT' h
  have I : Hid _ := hK
  clear hT hT' hK
  go_enter Tryz.func89, Tryz.ntmps89
  go_wp2_with fail
  go_loopw [5] (fun i wr => ∃ k : Nat, k ≤ blen f ∧ i = .int .i64 k ∧ Ex w wr) (fun i _ => blen f - (intOf i).toNat)
  case atStart => exact ⟨0, Nat.zero_le _, rfl, Ex.refl _⟩
  case round =>
    obtain ⟨j, hk, rfl, hx⟩ := hrel
    have X : Hid (Ex w wr) := hx
    clear hx
    by_cases hlt : j < blen f
    · obtain ⟨b, o, rfl, _, hbs, hkk⟩ := BA_at (T.out wr X.out) (by omega)
      obtain ⟨e0, ⟨u1, k1, e1, ync, y1⟩, e2, ⟨u3, k3, e3, y3⟩, ⟨u4, k4, e4, y4⟩, ⟨u5, k5, e5, y5⟩, ⟨u6, k6, e6, y6⟩, ⟨u7, k7, e7, y7⟩⟩ := hkk j hlt
      obtain ⟨b', o', rfl, _, hbs', hkk'⟩ := BA_at (T'.out wr X.out) (by omega)
      obtain ⟨g0, ⟨v1, l1, g1, znc, z1⟩, g2, ⟨v3, l3, g3, z3⟩, ⟨v4, l4, g4, z4⟩, ⟨v5, l5, g5, z5⟩, ⟨v6, l6, g6, z6⟩, ⟨v7, l7, g7, z7⟩⟩ := hkk' j hlt
      have HI : Hid (∀ w', Ex wr w' → _) := fun w' (h : Ex wr w') => I.out j hlt u1 k1 u3 k3 u4 k4 u5 k5 u6 k6 u7 k7 v1 l1 v3 l3 v4 l4 v5 l5 v6 l6 v7 l7 w' (X.out.trans h) (XA_below y1 h) (MA_below y3 h) (BA_below y4 h) (MA_below y5 h) (BA_below y6 h) (MA_below y7 h) (XA_below z1 h) (MA_below z3 h) (BA_below z4 h) (MA_below z5 h) (BA_below z6 h) (MA_below z7 h)
      clear hkk hkk' ync y1 y3 y4 y5 y6 y7 znc z1 z3 z4 z5 z6 z7
      have KS : Hid (∀ w', Ex wr w' → (Ex wr w' ∧ w'.cell? ⟨b, o + j * 8, none⟩ = some (.int .i64 (bkind f j)) ∧ w'.cell? ⟨b, o + j * 8 + 1, none⟩ = some (.slice u1 (bnames f j).length k1) ∧ w'.cell? ⟨b, o + j * 8 + 2, none⟩ = some (.string (bfn f j)) ∧ w'.cell? ⟨b, o + j * 8 + 3, none⟩ = some (.slice u3 (tlen (bterms f j)) k3) ∧ w'.cell? ⟨b, o + j * 8 + 4, none⟩ = some (.slice u4 (blen (bthen f j)) k4) ∧ w'.cell? ⟨b, o + j * 8 + 5, none⟩ = some (.slice u5 (tlen (btsay f j)) k5) ∧ w'.cell? ⟨b, o + j * 8 + 6, none⟩ = some (.slice u6 (blen (belse f j)) k6) ∧ w'.cell? ⟨b, o + j * 8 + 7, none⟩ = some (.slice u7 (tlen (besay f j)) k7) ∧ w'.cell? ⟨b', o' + j * 8, none⟩ = some (.int .i64 (bkind f j)) ∧ w'.cell? ⟨b', o' + j * 8 + 1, none⟩ = some (.slice v1 (bnames f j).length l1) ∧ w'.cell? ⟨b', o' + j * 8 + 2, none⟩ = some (.string (bfn f j)) ∧ w'.cell? ⟨b', o' + j * 8 + 3, none⟩ = some (.slice v3 (tlen (bterms f j)) l3) ∧ w'.cell? ⟨b', o' + j * 8 + 4, none⟩ = some (.slice v4 (blen (bthen f j)) l4) ∧ w'.cell? ⟨b', o' + j * 8 + 5, none⟩ = some (.slice v5 (tlen (btsay f j)) l5) ∧ w'.cell? ⟨b', o' + j * 8 + 6, none⟩ = some (.slice v6 (blen (belse f j)) l6) ∧ w'.cell? ⟨b', o' + j * 8 + 7, none⟩ = some (.slice v7 (tlen (besay f j)) l7))) := fun w' h => ⟨h, h.at e0, h.at e1, h.at e2, h.at e3, h.at e4, h.at e5, h.at e6, h.at e7, h.at g0, h.at g1, h.at g2, h.at g3, h.at g4, h.at g5, h.at g6, h.at g7⟩
      have i0 : (0 : Int) ≤ (j : Int) := by omega
      have i1 : (j : Int) < (blen f : Int) := by omega
      go_wp2_with fail
      clear e0 g0 e1 g1 e2 g2 e3 g3 e4 g4 e5 g5 e6 g6 e7 g7
      refine wp_region_held_drew (S := fun w' => Ex wr w' ∧ w'.cell? ⟨b, o + j * 8, none⟩ = some (.int .i64 (bkind f j)) ∧ w'.cell? ⟨b, o + j * 8 + 1, none⟩ = some (.slice u1 (bnames f j).length k1) ∧ w'.cell? ⟨b, o + j * 8 + 2, none⟩ = some (.string (bfn f j)) ∧ w'.cell? ⟨b, o + j * 8 + 3, none⟩ = some (.slice u3 (tlen (bterms f j)) k3) ∧ w'.cell? ⟨b, o + j * 8 + 4, none⟩ = some (.slice u4 (blen (bthen f j)) k4) ∧ w'.cell? ⟨b, o + j * 8 + 5, none⟩ = some (.slice u5 (tlen (btsay f j)) k5) ∧ w'.cell? ⟨b, o + j * 8 + 6, none⟩ = some (.slice u6 (blen (belse f j)) k6) ∧ w'.cell? ⟨b, o + j * 8 + 7, none⟩ = some (.slice u7 (tlen (besay f j)) k7) ∧ w'.cell? ⟨b', o' + j * 8, none⟩ = some (.int .i64 (bkind f j)) ∧ w'.cell? ⟨b', o' + j * 8 + 1, none⟩ = some (.slice v1 (bnames f j).length l1) ∧ w'.cell? ⟨b', o' + j * 8 + 2, none⟩ = some (.string (bfn f j)) ∧ w'.cell? ⟨b', o' + j * 8 + 3, none⟩ = some (.slice v3 (tlen (bterms f j)) l3) ∧ w'.cell? ⟨b', o' + j * 8 + 4, none⟩ = some (.slice v4 (blen (bthen f j)) l4) ∧ w'.cell? ⟨b', o' + j * 8 + 5, none⟩ = some (.slice v5 (tlen (btsay f j)) l5) ∧ w'.cell? ⟨b', o' + j * 8 + 6, none⟩ = some (.slice v6 (blen (belse f j)) l6) ∧ w'.cell? ⟨b', o' + j * 8 + 7, none⟩ = some (.slice v7 (tlen (besay f j)) l7)) (by kernel_rfl) (KS.out _ (Ex.refl _).drew) (fun hHeld => ?_)
      refine wpAnyH_take (i := 0) (v := ?_) rfl (by kernel_rfl) (by kernel_rfl) (by kernel_rfl) (fun _ _ _ h => h) (Or.inl ⟨by rfl, ?_⟩) (by assumption) ?_
      rotate_left
      · (intro w' hSw; (try dsimp only at hSw); go_simp) <;> with_reducible rfl
      change wpAnyH Tryz.prog _ _ _ _ _ _ (Act.put _ (some 17) _) _
      (try simp only [Act.put, List.setIfInBounds_toArray, List.set_cons_zero, List.set_cons_succ])
      refine wpAnyH_take (i := 1) (v := ?_) rfl (by kernel_rfl) (by kernel_rfl) (by kernel_rfl) (fun _ _ _ h => h) (Or.inl ⟨by rfl, ?_⟩) (by assumption) ?_
      rotate_left
      · (intro w' hSw; (try dsimp only at hSw); go_simp) <;> with_reducible rfl
      change wpAnyH Tryz.prog _ _ _ _ _ _ (Act.put _ (some 18) _) _
      (try simp only [Act.put, List.setIfInBounds_toArray, List.set_cons_zero, List.set_cons_succ])
      refine wpAnyH_take (i := 2) (v := ?_) rfl (by kernel_rfl) (by kernel_rfl) (by kernel_rfl) (fun _ _ _ h => h) (Or.inl ⟨by rfl, ?_⟩) (by assumption) ?_
      rotate_left
      · (intro w' hSw; (try dsimp only at hSw); go_simp) <;> with_reducible rfl
      change wpAnyH Tryz.prog _ _ _ _ _ _ (Act.put _ (some 19) _) _
      (try simp only [Act.put, List.setIfInBounds_toArray, List.set_cons_zero, List.set_cons_succ])
      refine wpAnyH_take (i := 3) (v := ?_) rfl (by kernel_rfl) (by kernel_rfl) (by kernel_rfl) (fun _ _ _ h => h) (Or.inl ⟨by rfl, ?_⟩) (by assumption) ?_
      rotate_left
      · (intro w' hSw; (try dsimp only at hSw); go_simp) <;> with_reducible rfl
      change wpAnyH Tryz.prog _ _ _ _ _ _ (Act.put _ (some 20) _) _
      (try simp only [Act.put, List.setIfInBounds_toArray, List.set_cons_zero, List.set_cons_succ])
      refine wpAnyH_take (i := 4) (v := ?_) rfl (by kernel_rfl) (by kernel_rfl) (by kernel_rfl) (fun _ _ _ h => h) (Or.inl ⟨by rfl, ?_⟩) (by assumption) ?_
      rotate_left
      · (intro w' hSw; (try dsimp only at hSw); go_simp) <;> with_reducible rfl
      change wpAnyH Tryz.prog _ _ _ _ _ _ (Act.put _ (some 21) _) _
      (try simp only [Act.put, List.setIfInBounds_toArray, List.set_cons_zero, List.set_cons_succ])
      refine wpAnyH_take (i := 5) (v := ?_) rfl (by kernel_rfl) (by kernel_rfl) (by kernel_rfl) (fun _ _ _ h => h) (Or.inl ⟨by rfl, ?_⟩) (by assumption) ?_
      rotate_left
      · (intro w' hSw; (try dsimp only at hSw); go_simp) <;> with_reducible rfl
      change wpAnyH Tryz.prog _ _ _ _ _ _ (Act.put _ (some 22) _) _
      (try simp only [Act.put, List.setIfInBounds_toArray, List.set_cons_zero, List.set_cons_succ])
      refine wpAnyH_take (i := 6) (v := ?_) rfl (by kernel_rfl) (by kernel_rfl) (by kernel_rfl) (fun _ _ _ h => h) (Or.inl ⟨by rfl, ?_⟩) (by assumption) ?_
      rotate_left
      · (intro w' hSw; (try dsimp only at hSw); go_simp) <;> with_reducible rfl
      change wpAnyH Tryz.prog _ _ _ _ _ _ (Act.put _ (some 23) _) _
      (try simp only [Act.put, List.setIfInBounds_toArray, List.set_cons_zero, List.set_cons_succ])
      refine wpAnyH_take (i := 7) (v := ?_) rfl (by kernel_rfl) (by kernel_rfl) (by kernel_rfl) (fun _ _ _ h => h) (Or.inl ⟨by rfl, ?_⟩) (by assumption) ?_
      rotate_left
      · (intro w' hSw; (try dsimp only at hSw); go_simp) <;> with_reducible rfl
      change wpAnyH Tryz.prog _ _ _ _ _ _ (Act.put _ (some 24) _) _
      (try simp only [Act.put, List.setIfInBounds_toArray, List.set_cons_zero, List.set_cons_succ])
      refine wpAnyH_ready (rs := [8]) (by kernel_rfl) (by simp) ?_
      refine AllReadyH.cons (i := 8) rfl (fun K hK => ?_) AllReadyH.nil
      go_simp
      refine (HI.out _ hHeld.1).mono ?_
      rintro e w1 ⟨rfl, hb1⟩
      have hx1 := Ex.trans (And.left hHeld) hb1
      clear hHeld
      go_wp2_with fail
      refine hK.out _ _ ?_ (fun hHeld => ?_)
      · exact KS.out _ hx1
      clear hK
      (try simp only [Act.put, List.setIfInBounds_toArray, List.set_cons_zero, List.set_cons_succ])
      refine wpAnyH_take (i := 9) (v := ?_) rfl (by kernel_rfl) (by kernel_rfl) (by kernel_rfl) (fun _ _ _ h => h) (Or.inl ⟨by rfl, ?_⟩) (by assumption) ?_
      rotate_left
      · (intro w' hSw; (try dsimp only at hSw); go_simp) <;> with_reducible rfl
      change wpAnyH Tryz.prog _ _ _ _ _ _ (Act.put _ (some 26) _) _
      (try simp only [Act.put, List.setIfInBounds_toArray, List.set_cons_zero, List.set_cons_succ])
      refine wpAnyH_done (by kernel_rfl) ?_ _
      go_wp2_with fail
      go_roundw
      case rel => exact ⟨j + 1, by omega, by go_num, X.out.trans hHeld.1⟩
      case measure => simp [intOf]; omega
    · go_wp2_with fail
      go_ret
      exact ⟨rfl, X.out⟩

set_option maxRecDepth 100000 in
set_option maxHeartbeats 2000000 in
theorem eqBind_by (k0 : Int) (nm : List ByteArray) (fn : ByteArray) (ts : TM) (tb : BD) (tz : TM) (eb : BD) (ez : TM) (u1 : Option Addr) (k1 : Nat) (u3 : Option Addr) (k3 : Nat) (u4 : Option Addr) (k4 : Nat) (u5 : Option Addr) (k5 : Nat) (u6 : Option Addr) (k6 : Nat) (u7 : Option Addr) (k7 : Nat) (v1 : Option Addr) (l1 : Nat) (v3 : Option Addr) (l3 : Nat) (v4 : Option Addr) (l4 : Nat) (v5 : Option Addr) (l5 : Nat) (v6 : Option Addr) (l6 : Nat) (v7 : Option Addr) (l7 : Nat) (w : World) (hn : nm.length ≤ 1000000000) (hX1 : XA w 0 nm u1) (hX2 : XA w 0 nm v1) (ht : tlen ts ≤ 1000000000) (htm : TSm ts) (hM1 : MA w 0 ts u3) (hM2 : MA w 0 ts v3) (hTb : ∀ w', Ex w w' → Calls Tryz.prog 63 #[.agg #[.slice u4 (blen tb) k4, .slice u5 (tlen tz) k5], .agg #[.slice v4 (blen tb) l4, .slice v5 (tlen tz) l5]] w' fun e w'' => e = .returned (.bool true) ∧ Ex w' w'') (hEb : ∀ w', Ex w w' → Calls Tryz.prog 63 #[.agg #[.slice u6 (blen eb) k6, .slice u7 (tlen ez) k7], .agg #[.slice v6 (blen eb) l6, .slice v7 (tlen ez) l7]] w' fun e w'' => e = .returned (.bool true) ∧ Ex w' w'') :
    Calls Tryz.prog 119 #[.agg #[.int .i64 k0, .slice u1 nm.length k1, .string fn, .slice u3 (tlen ts) k3, .slice u4 (blen tb) k4, .slice u5 (tlen tz) k5, .slice u6 (blen eb) k6, .slice u7 (tlen ez) k7], .agg #[.int .i64 k0, .slice v1 nm.length l1, .string fn, .slice v3 (tlen ts) l3, .slice v4 (blen tb) l4, .slice v5 (tlen tz) l5, .slice v6 (blen eb) l6, .slice v7 (tlen ez) l7]] w fun e w' => e = .returned (.bool true) ∧ Ex w w' := by
  have H_hX1 : Hid _ := hX1
  clear hX1
  have H_hX2 : Hid _ := hX2
  clear hX2
  have H_hM1 : Hid _ := hM1
  clear hM1
  have H_hM2 : Hid _ := hM2
  clear hM2
  have H_hTb : Hid _ := hTb
  clear hTb
  have H_hEb : Hid _ := hEb
  clear hEb
  have N : Hid (Ex w ((w.alloc (.cells #[.int .i64 k0, .slice u1 nm.length k1, .string fn, .slice u3 (tlen ts) k3, .slice u4 (blen tb) k4, .slice u5 (tlen tz) k5, .slice u6 (blen eb) k6, .slice u7 (tlen ez) k7] 102)).alloc (.cells #[.int .i64 k0, .slice v1 nm.length l1, .string fn, .slice v3 (tlen ts) l3, .slice v4 (blen tb) l4, .slice v5 (tlen tz) l5, .slice v6 (blen eb) l6, .slice v7 (tlen ez) l7] 102))) := (Ex.new _ _).alloc _
  have C : Hid (∀ w', Ex ((w.alloc (.cells #[.int .i64 k0, .slice u1 nm.length k1, .string fn, .slice u3 (tlen ts) k3, .slice u4 (blen tb) k4, .slice u5 (tlen tz) k5, .slice u6 (blen eb) k6, .slice u7 (tlen ez) k7] 102)).alloc (.cells #[.int .i64 k0, .slice v1 nm.length l1, .string fn, .slice v3 (tlen ts) l3, .slice v4 (blen tb) l4, .slice v5 (tlen tz) l5, .slice v6 (blen eb) l6, .slice v7 (tlen ez) l7] 102)) w' → w'.cell? ⟨w.heap.size, 0, none⟩ = some (.int .i64 k0) ∧ w'.cell? ⟨w.heap.size, 1, none⟩ = some (.slice u1 nm.length k1) ∧ w'.cell? ⟨w.heap.size, 2, none⟩ = some (.string fn) ∧ w'.cell? ⟨w.heap.size, 3, none⟩ = some (.slice u3 (tlen ts) k3) ∧ w'.cell? ⟨w.heap.size, 4, none⟩ = some (.slice u4 (blen tb) k4) ∧ w'.cell? ⟨w.heap.size, 5, none⟩ = some (.slice u5 (tlen tz) k5) ∧ w'.cell? ⟨w.heap.size, 6, none⟩ = some (.slice u6 (blen eb) k6) ∧ w'.cell? ⟨w.heap.size, 7, none⟩ = some (.slice u7 (tlen ez) k7) ∧ w'.cell? ⟨w.heap.size + 1, 0, none⟩ = some (.int .i64 k0) ∧ w'.cell? ⟨w.heap.size + 1, 1, none⟩ = some (.slice v1 nm.length l1) ∧ w'.cell? ⟨w.heap.size + 1, 2, none⟩ = some (.string fn) ∧ w'.cell? ⟨w.heap.size + 1, 3, none⟩ = some (.slice v3 (tlen ts) l3) ∧ w'.cell? ⟨w.heap.size + 1, 4, none⟩ = some (.slice v4 (blen tb) l4) ∧ w'.cell? ⟨w.heap.size + 1, 5, none⟩ = some (.slice v5 (tlen tz) l5) ∧ w'.cell? ⟨w.heap.size + 1, 6, none⟩ = some (.slice v6 (blen eb) l6) ∧ w'.cell? ⟨w.heap.size + 1, 7, none⟩ = some (.slice v7 (tlen ez) l7)) := fun w' h => ⟨h.at (by simp), h.at (by simp), h.at (by simp), h.at (by simp), h.at (by simp), h.at (by simp), h.at (by simp), h.at (by simp), h.at (by simp), h.at (by simp), h.at (by simp), h.at (by simp), h.at (by simp), h.at (by simp), h.at (by simp), h.at (by simp)⟩
  go_enter Tryz.func119, Tryz.ntmps119
  go_wp2_with fail
  refine (eqTexts_same nm u1 v1 k1 l1 _ hn (XA_below H_hX1.out N.out) (XA_below H_hX2.out N.out)).mono ?_
  rintro e w1 ⟨rfl, hb1⟩
  have X1 : Hid (Ex ((w.alloc (.cells #[.int .i64 k0, .slice u1 nm.length k1, .string fn, .slice u3 (tlen ts) k3, .slice u4 (blen tb) k4, .slice u5 (tlen tz) k5, .slice u6 (blen eb) k6, .slice u7 (tlen ez) k7] 102)).alloc (.cells #[.int .i64 k0, .slice v1 nm.length l1, .string fn, .slice v3 (tlen ts) l3, .slice v4 (blen tb) l4, .slice v5 (tlen tz) l5, .slice v6 (blen eb) l6, .slice v7 (tlen ez) l7] 102)) w1) := hb1
  clear hb1
  obtain ⟨cA0, cA1, cA2, cA3, cA4, cA5, cA6, cA7, cB0, cB1, cB2, cB3, cB4, cB5, cB6, cB7⟩ := C.out w1 X1.out
  go_wp2_with fail
  refine (eqTermS_same ts u3 v3 k3 l3 _ ht htm (MA_below H_hM1.out (N.out.trans X1.out)) (MA_below H_hM2.out (N.out.trans X1.out))).mono ?_
  rintro e w2 ⟨rfl, hb2⟩
  have X2 : Hid (Ex ((w.alloc (.cells #[.int .i64 k0, .slice u1 nm.length k1, .string fn, .slice u3 (tlen ts) k3, .slice u4 (blen tb) k4, .slice u5 (tlen tz) k5, .slice u6 (blen eb) k6, .slice u7 (tlen ez) k7] 102)).alloc (.cells #[.int .i64 k0, .slice v1 nm.length l1, .string fn, .slice v3 (tlen ts) l3, .slice v4 (blen tb) l4, .slice v5 (tlen tz) l5, .slice v6 (blen eb) l6, .slice v7 (tlen ez) l7] 102)) w2) := X1.out.trans hb2
  clear hb2 cA0 cA1 cA2 cA3 cA4 cA5 cA6 cA7 cB0 cB1 cB2 cB3 cB4 cB5 cB6 cB7
  obtain ⟨cA0, cA1, cA2, cA3, cA4, cA5, cA6, cA7, cB0, cB1, cB2, cB3, cB4, cB5, cB6, cB7⟩ := C.out w2 X2.out
  go_wp2_with fail
  refine (H_hTb.out _ (N.out.trans X2.out)).mono ?_
  rintro e w3 ⟨rfl, hb3⟩
  have X3 : Hid (Ex ((w.alloc (.cells #[.int .i64 k0, .slice u1 nm.length k1, .string fn, .slice u3 (tlen ts) k3, .slice u4 (blen tb) k4, .slice u5 (tlen tz) k5, .slice u6 (blen eb) k6, .slice u7 (tlen ez) k7] 102)).alloc (.cells #[.int .i64 k0, .slice v1 nm.length l1, .string fn, .slice v3 (tlen ts) l3, .slice v4 (blen tb) l4, .slice v5 (tlen tz) l5, .slice v6 (blen eb) l6, .slice v7 (tlen ez) l7] 102)) w3) := X2.out.trans hb3
  clear hb3 cA0 cA1 cA2 cA3 cA4 cA5 cA6 cA7 cB0 cB1 cB2 cB3 cB4 cB5 cB6 cB7
  obtain ⟨cA0, cA1, cA2, cA3, cA4, cA5, cA6, cA7, cB0, cB1, cB2, cB3, cB4, cB5, cB6, cB7⟩ := C.out w3 X3.out
  go_wp2_with fail
  refine (H_hEb.out _ (N.out.trans X3.out)).mono ?_
  rintro e w4 ⟨rfl, hb4⟩
  have X4 : Hid (Ex ((w.alloc (.cells #[.int .i64 k0, .slice u1 nm.length k1, .string fn, .slice u3 (tlen ts) k3, .slice u4 (blen tb) k4, .slice u5 (tlen tz) k5, .slice u6 (blen eb) k6, .slice u7 (tlen ez) k7] 102)).alloc (.cells #[.int .i64 k0, .slice v1 nm.length l1, .string fn, .slice v3 (tlen ts) l3, .slice v4 (blen tb) l4, .slice v5 (tlen tz) l5, .slice v6 (blen eb) l6, .slice v7 (tlen ez) l7] 102)) w4) := X3.out.trans hb4
  clear hb4 cA0 cA1 cA2 cA3 cA4 cA5 cA6 cA7 cB0 cB1 cB2 cB3 cB4 cB5 cB6 cB7
  obtain ⟨cA0, cA1, cA2, cA3, cA4, cA5, cA6, cA7, cB0, cB1, cB2, cB3, cB4, cB5, cB6, cB7⟩ := C.out w4 X4.out
  go_wp2_with fail
  go_ret
  exact ⟨rfl, N.out.trans X4.out⟩

set_option maxRecDepth 100000 in
set_option maxHeartbeats 2000000 in
theorem eqBody_by (b : BD) (z : TM) (u1 : Option Addr) (k1 : Nat) (u2 : Option Addr) (k2 : Nat) (v1 : Option Addr) (l1 : Nat) (v2 : Option Addr) (l2 : Nat) (w : World) (hBs : ∀ w', Ex w w' → Calls Tryz.prog 89 #[.slice u1 (blen b) k1, .slice v1 (blen b) l1] w' fun e w'' => e = .returned (.bool true) ∧ Ex w' w'') (hz : tlen z ≤ 1000000000) (hzm : TSm z) (hM1 : MA w 0 z u2) (hM2 : MA w 0 z v2) :
    Calls Tryz.prog 63 #[.agg #[.slice u1 (blen b) k1, .slice u2 (tlen z) k2], .agg #[.slice v1 (blen b) l1, .slice v2 (tlen z) l2]] w fun e w' => e = .returned (.bool true) ∧ Ex w w' := by
  have H_hBs : Hid _ := hBs
  clear hBs
  have H_hM1 : Hid _ := hM1
  clear hM1
  have H_hM2 : Hid _ := hM2
  clear hM2
  have N : Hid (Ex w ((w.alloc (.cells #[.slice u1 (blen b) k1, .slice u2 (tlen z) k2] 59)).alloc (.cells #[.slice v1 (blen b) l1, .slice v2 (tlen z) l2] 59))) := (Ex.new _ _).alloc _
  have C : Hid (∀ w', Ex ((w.alloc (.cells #[.slice u1 (blen b) k1, .slice u2 (tlen z) k2] 59)).alloc (.cells #[.slice v1 (blen b) l1, .slice v2 (tlen z) l2] 59)) w' → w'.cell? ⟨w.heap.size, 0, none⟩ = some (.slice u1 (blen b) k1) ∧ w'.cell? ⟨w.heap.size, 1, none⟩ = some (.slice u2 (tlen z) k2) ∧ w'.cell? ⟨w.heap.size + 1, 0, none⟩ = some (.slice v1 (blen b) l1) ∧ w'.cell? ⟨w.heap.size + 1, 1, none⟩ = some (.slice v2 (tlen z) l2)) := fun w' h => ⟨h.at (by simp), h.at (by simp), h.at (by simp), h.at (by simp)⟩
  go_enter Tryz.func63, Tryz.ntmps63
  go_wp2_with fail
  refine (H_hBs.out _ N.out).mono ?_
  rintro e w1 ⟨rfl, hb1⟩
  have X1 : Hid (Ex ((w.alloc (.cells #[.slice u1 (blen b) k1, .slice u2 (tlen z) k2] 59)).alloc (.cells #[.slice v1 (blen b) l1, .slice v2 (tlen z) l2] 59)) w1) := hb1
  clear hb1
  obtain ⟨cA0, cA1, cB0, cB1⟩ := C.out w1 X1.out
  go_wp2_with fail
  refine (eqTermS_same z u2 v2 k2 l2 _ hz hzm (MA_below H_hM1.out (N.out.trans X1.out)) (MA_below H_hM2.out (N.out.trans X1.out))).mono ?_
  rintro e w2 ⟨rfl, hb2⟩
  have X2 : Hid (Ex ((w.alloc (.cells #[.slice u1 (blen b) k1, .slice u2 (tlen z) k2] 59)).alloc (.cells #[.slice v1 (blen b) l1, .slice v2 (tlen z) l2] 59)) w2) := X1.out.trans hb2
  clear hb2 cA0 cA1 cB0 cB1
  obtain ⟨cA0, cA1, cB0, cB1⟩ := C.out w2 X2.out
  go_wp2_with fail
  go_ret
  exact ⟨rfl, N.out.trans X2.out⟩

theorem eqBody_all : ∀ (d : Nat) (b : BD) (z : TM) (u1 : Option Addr) (k1 : Nat) (u2 : Option Addr) (k2 : Nat) (v1 : Option Addr) (l1 : Nat) (v2 : Option Addr) (l2 : Nat) (w : World), bdep b < d → blen b ≤ 1000000000 → BSm b → tlen z ≤ 1000000000 → TSm z → BA w 0 b u1 → MA w 0 z u2 → BA w 0 b v1 → MA w 0 z v2 →
    Calls Tryz.prog 63 #[.agg #[.slice u1 (blen b) k1, .slice u2 (tlen z) k2], .agg #[.slice v1 (blen b) l1, .slice v2 (tlen z) l2]] w fun e w' => e = .returned (.bool true) ∧ Ex w w' := by
  intro d
  induction d with
  | zero => intro b z u1 k1 u2 k2 v1 l1 v2 l2 w hd; omega
  | succ d ih =>
    intro b z u1 k1 u2 k2 v1 l1 v2 l2 w hd hbl hbm hzl hzm hB hM hB' hM'
    refine eqBody_by b z u1 k1 u2 k2 v1 l1 v2 l2 w (fun w' hx => ?_) hzl hzm hM hM'
    refine eqBindS_by b u1 v1 k1 l1 w' hbl (BA_below hB hx) (BA_below hB' hx) fun j hj U1 K1 U3 K3 U4 K4 U5 K5 U6 K6 U7 K7 V1 L1 V3 L3 V4 L4 V5 L5 V6 L6 V7 L7 w2 hx2 y1 y3 y4 y5 y6 y7 z1 z3 z4 z5 z6 z7 => ?_
    obtain ⟨g1, g2, g3, g4, g5, g6, g7, g8⟩ := BSm_at hbm j hj
    obtain ⟨m1, m2, m3⟩ := BSm_terms hbm j hj
    have hdj := bdep_kid b j hj
    exact eqBind_by _ _ _ _ _ _ _ _ U1 K1 U3 K3 U4 K4 U5 K5 U6 K6 U7 K7 V1 L1 V3 L3 V4 L4 V5 L5 V6 L6 V7 L7 w2 g1 y1 z1 g2 m1 y3 z3
      (fun w4 hx4 => ih _ _ U4 K4 U5 K5 V4 L4 V5 L5 w4 (by omega) g3 g4 g5 m2 (BA_below y4 hx4) (MA_below y5 hx4) (BA_below z4 hx4) (MA_below z5 hx4))
      (fun w4 hx4 => ih _ _ U6 K6 U7 K7 V6 L6 V7 L7 w4 (by omega) g6 g7 g8 m3 (BA_below y6 hx4) (MA_below y7 hx4) (BA_below z6 hx4) (MA_below z7 hx4))

set_option maxRecDepth 100000 in
set_option maxHeartbeats 2000000 in
theorem eqPure_by (nm : ByteArray) (ps : List ByteArray) (b : BD) (z : TM) (u1 : Option Addr) (k1 : Nat) (u2 : Option Addr) (k2 : Nat) (u3 : Option Addr) (k3 : Nat) (v1 : Option Addr) (l1 : Nat) (v2 : Option Addr) (l2 : Nat) (v3 : Option Addr) (l3 : Nat) (w : World) (hp : ps.length ≤ 1000000000) (hX1 : XA w 0 ps u1) (hX2 : XA w 0 ps v1) (hBo : ∀ w', Ex w w' → Calls Tryz.prog 63 #[.agg #[.slice u2 (blen b) k2, .slice u3 (tlen z) k3], .agg #[.slice v2 (blen b) l2, .slice v3 (tlen z) l3]] w' fun e w'' => e = .returned (.bool true) ∧ Ex w' w'') :
    Calls Tryz.prog 33 #[.agg #[.string nm, .slice u1 ps.length k1, .slice u2 (blen b) k2, .slice u3 (tlen z) k3], .agg #[.string nm, .slice v1 ps.length l1, .slice v2 (blen b) l2, .slice v3 (tlen z) l3]] w fun e w' => e = .returned (.bool true) ∧ Ex w w' := by
  have H_hX1 : Hid _ := hX1
  clear hX1
  have H_hX2 : Hid _ := hX2
  clear hX2
  have H_hBo : Hid _ := hBo
  clear hBo
  have N : Hid (Ex w ((w.alloc (.cells #[.string nm, .slice u1 ps.length k1, .slice u2 (blen b) k2, .slice u3 (tlen z) k3] 61)).alloc (.cells #[.string nm, .slice v1 ps.length l1, .slice v2 (blen b) l2, .slice v3 (tlen z) l3] 61))) := (Ex.new _ _).alloc _
  have C : Hid (∀ w', Ex ((w.alloc (.cells #[.string nm, .slice u1 ps.length k1, .slice u2 (blen b) k2, .slice u3 (tlen z) k3] 61)).alloc (.cells #[.string nm, .slice v1 ps.length l1, .slice v2 (blen b) l2, .slice v3 (tlen z) l3] 61)) w' → w'.cell? ⟨w.heap.size, 0, none⟩ = some (.string nm) ∧ w'.cell? ⟨w.heap.size, 1, none⟩ = some (.slice u1 ps.length k1) ∧ w'.cell? ⟨w.heap.size, 2, none⟩ = some (.slice u2 (blen b) k2) ∧ w'.cell? ⟨w.heap.size, 3, none⟩ = some (.slice u3 (tlen z) k3) ∧ w'.cell? ⟨w.heap.size + 1, 0, none⟩ = some (.string nm) ∧ w'.cell? ⟨w.heap.size + 1, 1, none⟩ = some (.slice v1 ps.length l1) ∧ w'.cell? ⟨w.heap.size + 1, 2, none⟩ = some (.slice v2 (blen b) l2) ∧ w'.cell? ⟨w.heap.size + 1, 3, none⟩ = some (.slice v3 (tlen z) l3)) := fun w' h => ⟨h.at (by simp), h.at (by simp), h.at (by simp), h.at (by simp), h.at (by simp), h.at (by simp), h.at (by simp), h.at (by simp)⟩
  go_enter Tryz.func33, Tryz.ntmps33
  go_wp2_with fail
  refine (eqTexts_same ps u1 v1 k1 l1 _ hp (XA_below H_hX1.out N.out) (XA_below H_hX2.out N.out)).mono ?_
  rintro e w1 ⟨rfl, hb1⟩
  have X1 : Hid (Ex ((w.alloc (.cells #[.string nm, .slice u1 ps.length k1, .slice u2 (blen b) k2, .slice u3 (tlen z) k3] 61)).alloc (.cells #[.string nm, .slice v1 ps.length l1, .slice v2 (blen b) l2, .slice v3 (tlen z) l3] 61)) w1) := hb1
  clear hb1
  obtain ⟨cA0, cA1, cA2, cA3, cB0, cB1, cB2, cB3⟩ := C.out w1 X1.out
  go_wp2_with fail
  refine (H_hBo.out _ (N.out.trans X1.out)).mono ?_
  rintro e w2 ⟨rfl, hb2⟩
  have X2 : Hid (Ex ((w.alloc (.cells #[.string nm, .slice u1 ps.length k1, .slice u2 (blen b) k2, .slice u3 (tlen z) k3] 61)).alloc (.cells #[.string nm, .slice v1 ps.length l1, .slice v2 (blen b) l2, .slice v3 (tlen z) l3] 61)) w2) := X1.out.trans hb2
  clear hb2 cA0 cA1 cA2 cA3 cB0 cB1 cB2 cB3
  obtain ⟨cA0, cA1, cA2, cA3, cB0, cB1, cB2, cB3⟩ := C.out w2 X2.out
  go_wp2_with fail
  go_ret
  exact ⟨rfl, N.out.trans X2.out⟩

set_option maxRecDepth 100000 in
set_option maxHeartbeats 4000000 in
theorem eqPureS_by (f : List PM) (a a' : Option Addr) (c c' : Nat) (w : World) (hl : f.length ≤ 1000000000) (hT : QA w 0 f a) (hT' : QA w 0 f a')
    (hK : ∀ j, j < f.length → ∀ (u1 : Option Addr) (k1 : Nat) (u2 : Option Addr) (k2 : Nat) (u3 : Option Addr) (k3 : Nat) (v1 : Option Addr) (l1 : Nat) (v2 : Option Addr) (l2 : Nat) (v3 : Option Addr) (l3 : Nat) (w' : World), Ex w w' → XA w' 0 (f.getD j pm0).params u1 → BA w' 0 (f.getD j pm0).binds u2 → MA w' 0 (f.getD j pm0).says u3 → XA w' 0 (f.getD j pm0).params v1 → BA w' 0 (f.getD j pm0).binds v2 → MA w' 0 (f.getD j pm0).says v3 → Calls Tryz.prog 33 #[.agg #[.string (f.getD j pm0).name, .slice u1 (f.getD j pm0).params.length k1, .slice u2 (blen (f.getD j pm0).binds) k2, .slice u3 (tlen (f.getD j pm0).says) k3], .agg #[.string (f.getD j pm0).name, .slice v1 (f.getD j pm0).params.length l1, .slice v2 (blen (f.getD j pm0).binds) l2, .slice v3 (tlen (f.getD j pm0).says) l3]] w' fun e w'' => e = .returned (.bool true) ∧ Ex w' w'') :
    Calls Tryz.prog 12 #[.slice a (f.length) c, .slice a' (f.length) c'] w fun e w' => e = .returned (.bool true) ∧ Ex w w' := by
  have T : Hid (∀ w', Ex w w' → QA w' 0 f a) := fun _ h => QA_below hT h
  have T' : Hid (∀ w', Ex w w' → QA w' 0 f a') := fun _ h => QA_below hT' h
  have I : Hid _ := hK
  clear hT hT' hK
  go_enter Tryz.func12, Tryz.ntmps12
  go_wp2_with fail
  go_loopw [5] (fun i wr => ∃ k : Nat, k ≤ f.length ∧ i = .int .i64 k ∧ Ex w wr) (fun i _ => f.length - (intOf i).toNat)
  case atStart => exact ⟨0, Nat.zero_le _, rfl, Ex.refl _⟩
  case round =>
    obtain ⟨j, hk, rfl, hx⟩ := hrel
    have X : Hid (Ex w wr) := hx
    clear hx
    by_cases hlt : j < f.length
    · obtain ⟨b, o, rfl, _, hbs, hkk⟩ := QA_at (T.out wr X.out) (by omega)
      obtain ⟨e0, ⟨u1, k1, e1, ync, y1⟩, ⟨u2, k2, e2, y2⟩, ⟨u3, k3, e3, y3⟩⟩ := hkk j hlt
      obtain ⟨b', o', rfl, _, hbs', hkk'⟩ := QA_at (T'.out wr X.out) (by omega)
      obtain ⟨g0, ⟨v1, l1, g1, znc, z1⟩, ⟨v2, l2, g2, z2⟩, ⟨v3, l3, g3, z3⟩⟩ := hkk' j hlt
      have HI : Hid (∀ w', Ex wr w' → _) := fun w' (h : Ex wr w') => I.out j hlt u1 k1 u2 k2 u3 k3 v1 l1 v2 l2 v3 l3 w' (X.out.trans h) (XA_below y1 h) (BA_below y2 h) (MA_below y3 h) (XA_below z1 h) (BA_below z2 h) (MA_below z3 h)
      clear hkk hkk' ync y1 y2 y3 znc z1 z2 z3
      obtain ⟨q, hq⟩ : ∃ q, f.getD j pm0 = q := ⟨_, rfl⟩
      rw [hq] at e0 e1 e2 e3 g0 g1 g2 g3 HI
      clear hq
      obtain ⟨gn, gp, gb, gs⟩ := q
      dsimp only at e0 e1 e2 e3 g0 g1 g2 g3 HI
      have KS : Hid (∀ w', Ex wr w' → (Ex wr w' ∧ w'.cell? ⟨b, o + j * 4, none⟩ = some (.string gn) ∧ w'.cell? ⟨b, o + j * 4 + 1, none⟩ = some (.slice u1 gp.length k1) ∧ w'.cell? ⟨b, o + j * 4 + 2, none⟩ = some (.slice u2 (blen gb) k2) ∧ w'.cell? ⟨b, o + j * 4 + 3, none⟩ = some (.slice u3 (tlen gs) k3) ∧ w'.cell? ⟨b', o' + j * 4, none⟩ = some (.string gn) ∧ w'.cell? ⟨b', o' + j * 4 + 1, none⟩ = some (.slice v1 gp.length l1) ∧ w'.cell? ⟨b', o' + j * 4 + 2, none⟩ = some (.slice v2 (blen gb) l2) ∧ w'.cell? ⟨b', o' + j * 4 + 3, none⟩ = some (.slice v3 (tlen gs) l3))) := fun w' h => ⟨h, h.at e0, h.at e1, h.at e2, h.at e3, h.at g0, h.at g1, h.at g2, h.at g3⟩
      have i0 : (0 : Int) ≤ (j : Int) := by omega
      have i1 : (j : Int) < (f.length : Int) := by omega
      go_wp2_with fail
      clear e0 g0 e1 g1 e2 g2 e3 g3
      refine wp_region_held_drew (S := fun w' => Ex wr w' ∧ w'.cell? ⟨b, o + j * 4, none⟩ = some (.string gn) ∧ w'.cell? ⟨b, o + j * 4 + 1, none⟩ = some (.slice u1 gp.length k1) ∧ w'.cell? ⟨b, o + j * 4 + 2, none⟩ = some (.slice u2 (blen gb) k2) ∧ w'.cell? ⟨b, o + j * 4 + 3, none⟩ = some (.slice u3 (tlen gs) k3) ∧ w'.cell? ⟨b', o' + j * 4, none⟩ = some (.string gn) ∧ w'.cell? ⟨b', o' + j * 4 + 1, none⟩ = some (.slice v1 gp.length l1) ∧ w'.cell? ⟨b', o' + j * 4 + 2, none⟩ = some (.slice v2 (blen gb) l2) ∧ w'.cell? ⟨b', o' + j * 4 + 3, none⟩ = some (.slice v3 (tlen gs) l3)) (by kernel_rfl) (KS.out _ (Ex.refl _).drew) (fun hHeld => ?_)
      refine wpAnyH_take (i := 0) (v := ?_) rfl (by kernel_rfl) (by kernel_rfl) (by kernel_rfl) (fun _ _ _ h => h) (Or.inl ⟨by rfl, ?_⟩) (by assumption) ?_
      rotate_left
      · (intro w' hSw; (try dsimp only at hSw); go_simp) <;> with_reducible rfl
      change wpAnyH Tryz.prog _ _ _ _ _ _ (Act.put _ (some 17) _) _
      (try simp only [Act.put, List.setIfInBounds_toArray, List.set_cons_zero, List.set_cons_succ])
      refine wpAnyH_take (i := 1) (v := ?_) rfl (by kernel_rfl) (by kernel_rfl) (by kernel_rfl) (fun _ _ _ h => h) (Or.inl ⟨by rfl, ?_⟩) (by assumption) ?_
      rotate_left
      · (intro w' hSw; (try dsimp only at hSw); go_simp) <;> with_reducible rfl
      change wpAnyH Tryz.prog _ _ _ _ _ _ (Act.put _ (some 18) _) _
      (try simp only [Act.put, List.setIfInBounds_toArray, List.set_cons_zero, List.set_cons_succ])
      refine wpAnyH_take (i := 2) (v := ?_) rfl (by kernel_rfl) (by kernel_rfl) (by kernel_rfl) (fun _ _ _ h => h) (Or.inl ⟨by rfl, ?_⟩) (by assumption) ?_
      rotate_left
      · (intro w' hSw; (try dsimp only at hSw); go_simp) <;> with_reducible rfl
      change wpAnyH Tryz.prog _ _ _ _ _ _ (Act.put _ (some 19) _) _
      (try simp only [Act.put, List.setIfInBounds_toArray, List.set_cons_zero, List.set_cons_succ])
      refine wpAnyH_take (i := 3) (v := ?_) rfl (by kernel_rfl) (by kernel_rfl) (by kernel_rfl) (fun _ _ _ h => h) (Or.inl ⟨by rfl, ?_⟩) (by assumption) ?_
      rotate_left
      · (intro w' hSw; (try dsimp only at hSw); go_simp) <;> with_reducible rfl
      change wpAnyH Tryz.prog _ _ _ _ _ _ (Act.put _ (some 20) _) _
      (try simp only [Act.put, List.setIfInBounds_toArray, List.set_cons_zero, List.set_cons_succ])
      refine wpAnyH_take (i := 4) (v := ?_) rfl (by kernel_rfl) (by kernel_rfl) (by kernel_rfl) (fun _ _ _ h => h) (Or.inl ⟨by rfl, ?_⟩) (by assumption) ?_
      rotate_left
      · (intro w' hSw; (try dsimp only at hSw); go_simp) <;> with_reducible rfl
      change wpAnyH Tryz.prog _ _ _ _ _ _ (Act.put _ (some 21) _) _
      (try simp only [Act.put, List.setIfInBounds_toArray, List.set_cons_zero, List.set_cons_succ])
      refine wpAnyH_take (i := 5) (v := ?_) rfl (by kernel_rfl) (by kernel_rfl) (by kernel_rfl) (fun _ _ _ h => h) (Or.inl ⟨by rfl, ?_⟩) (by assumption) ?_
      rotate_left
      · (intro w' hSw; (try dsimp only at hSw); go_simp) <;> with_reducible rfl
      change wpAnyH Tryz.prog _ _ _ _ _ _ (Act.put _ (some 22) _) _
      (try simp only [Act.put, List.setIfInBounds_toArray, List.set_cons_zero, List.set_cons_succ])
      refine wpAnyH_take (i := 6) (v := ?_) rfl (by kernel_rfl) (by kernel_rfl) (by kernel_rfl) (fun _ _ _ h => h) (Or.inl ⟨by rfl, ?_⟩) (by assumption) ?_
      rotate_left
      · (intro w' hSw; (try dsimp only at hSw); go_simp) <;> with_reducible rfl
      change wpAnyH Tryz.prog _ _ _ _ _ _ (Act.put _ (some 23) _) _
      (try simp only [Act.put, List.setIfInBounds_toArray, List.set_cons_zero, List.set_cons_succ])
      refine wpAnyH_take (i := 7) (v := ?_) rfl (by kernel_rfl) (by kernel_rfl) (by kernel_rfl) (fun _ _ _ h => h) (Or.inl ⟨by rfl, ?_⟩) (by assumption) ?_
      rotate_left
      · (intro w' hSw; (try dsimp only at hSw); go_simp) <;> with_reducible rfl
      change wpAnyH Tryz.prog _ _ _ _ _ _ (Act.put _ (some 24) _) _
      (try simp only [Act.put, List.setIfInBounds_toArray, List.set_cons_zero, List.set_cons_succ])
      refine wpAnyH_ready (rs := [8]) (by kernel_rfl) (by simp) ?_
      refine AllReadyH.cons (i := 8) rfl (fun K hK => ?_) AllReadyH.nil
      go_simp
      refine (HI.out _ hHeld.1).mono ?_
      rintro e w1 ⟨rfl, hb1⟩
      have hx1 := Ex.trans (And.left hHeld) hb1
      clear hHeld
      go_wp2_with fail
      refine hK.out _ _ ?_ (fun hHeld => ?_)
      · exact KS.out _ hx1
      clear hK
      (try simp only [Act.put, List.setIfInBounds_toArray, List.set_cons_zero, List.set_cons_succ])
      refine wpAnyH_take (i := 9) (v := ?_) rfl (by kernel_rfl) (by kernel_rfl) (by kernel_rfl) (fun _ _ _ h => h) (Or.inl ⟨by rfl, ?_⟩) (by assumption) ?_
      rotate_left
      · (intro w' hSw; (try dsimp only at hSw); go_simp) <;> with_reducible rfl
      change wpAnyH Tryz.prog _ _ _ _ _ _ (Act.put _ (some 26) _) _
      (try simp only [Act.put, List.setIfInBounds_toArray, List.set_cons_zero, List.set_cons_succ])
      refine wpAnyH_done (by kernel_rfl) ?_ _
      go_wp2_with fail
      go_roundw
      case rel => exact ⟨j + 1, by omega, by go_num, X.out.trans hHeld.1⟩
      case measure => simp [intOf]; omega
    · go_wp2_with fail
      go_ret
      exact ⟨rfl, X.out⟩

theorem eqPureS_same (f : List PM) (a a' : Option Addr) (c c' : Nat) (w : World) (hl : f.length ≤ 1000000000) (hs : PSkTo f f.length) (hT : QA w 0 f a) (hT' : QA w 0 f a') :
    Calls Tryz.prog 12 #[.slice a f.length c, .slice a' f.length c'] w fun e w' => e = .returned (.bool true) ∧ Ex w w' := by
  refine eqPureS_by f a a' c c' w hl hT hT' fun j hj U1 K1 U2 K2 U3 K3 V1 L1 V2 L2 V3 L3 w' hx y1 y2 y3 z1 z2 z3 => ?_
  obtain ⟨g1, ⟨g2, g3⟩, g4, g5⟩ := hs j hj
  exact eqPure_by _ _ _ _ U1 K1 U2 K2 U3 K3 V1 L1 V2 L2 V3 L3 w' (by omega) y1 z1 (fun w4 hx4 => eqBody_all _ _ _ U2 K2 U3 K3 V2 L2 V3 L3 w4 (Nat.lt_succ_self _) (by omega) g3 (by omega) g5 (BA_below y2 hx4) (MA_below y3 hx4) (BA_below z2 hx4) (MA_below z3 hx4))

end Go.Proofs.YtgpdnoghlommeaaGreatDoor
