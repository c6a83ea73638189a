/- Walks: the same texts and terms compared. The exact law on types of terms, walked. Walks: bindings, bodies and functions counted by the exact laws. -/
import Derived.Test.YthdihpcpobhadaaDoorGSZ1
import Derived.Test.YthdihpcpobhadaaDoorGTO1
import Derived.Deep.RegionHeld3
import Derived.Test.YthdihpcpobhadaaDoorGE2
import Derived.Test.YthdihpcpobhadaaDoorGMK2
import Derived.Deep.CutRange
import Derived.Test.YthdihpcpobhadaaDoorGBD3
namespace Go.Proofs.YthdihpcpobhadaaDoor

open Go.RowKit Go.Deep

attribute [local go_sem ↓] Go.wp_at_zero Go.wp_at_succ

set_option maxRecDepth 100000 in
set_option maxHeartbeats 2000000 in
theorem eqTexts_same (f : List ByteArray) (a a' : Option Addr) (c c' : Nat) (w : World) (hl : f.length ≤ 1000000000) (hT : XA w 0 f a) (hT' : XA w 0 f a') :
    Calls Tryd.prog 20 #[.slice a f.length c, .slice a' f.length c'] w fun e w' => e = .returned (.bool true) ∧ Ex w w' := by
  have T : Hid (∀ w', Ex w w' → XA w' 0 f a) := fun _ h => XA_below hT h
  have T' : Hid (∀ w', Ex w w' → XA w' 0 f a') := fun _ h => XA_below hT' h
  clear hT hT'
  go_enter Tryd.func20, Tryd.ntmps20
  go_wp2_with fail
  go_loopw [5] (fun i wr => ∃ k : Nat, k ≤ f.length ∧ i = .int .i64 k ∧ Ex w wr) (fun i _ => f.length - (intOf i).toNat)
  case atStart => exact ⟨0, Nat.zero_le _, rfl, Ex.refl _⟩
  case round =>
    obtain ⟨j, hk, rfl, hx⟩ := hrel
    have X : Hid (Ex w wr) := hx
    clear hx
    by_cases hlt : j < f.length
    · obtain ⟨b, o, rfl, _, _, hkk⟩ := XA_at (T.out wr X.out) (by omega)
      obtain ⟨b', o', rfl, _, _, hkk'⟩ := XA_at (T'.out wr X.out) (by omega)
      have e0 := hkk j hlt
      have g0 := hkk' j hlt
      obtain ⟨t, ht⟩ : ∃ t, f.getD j ⟨#[]⟩ = t := ⟨_, rfl⟩
      rw [ht] at e0 g0
      clear hkk hkk' ht
      have KS : Hid (∀ w', Ex wr w' → (Ex wr w' ∧ w'.cell? ⟨b, o + j, none⟩ = some (.string t) ∧ w'.cell? ⟨b', o' + j, none⟩ = some (.string t))) := fun w' h => ⟨h, h.at e0, h.at g0⟩
      have i0 : (0 : Int) ≤ (j : Int) := by omega
      have i1 : (j : Int) < (f.length : Int) := by omega
      go_wp2_with fail
      clear e0 g0
      refine wp_region_held_drew (S := fun w' => Ex wr w' ∧ w'.cell? ⟨b, o + j, none⟩ = some (.string t) ∧ w'.cell? ⟨b', o' + j, none⟩ = some (.string t)) (by kernel_rfl) (KS.out _ (Ex.refl _).drew) (fun hHeld => ?_)
      refine wpAnyH_take (i := 0) (v := ?_) rfl (by kernel_rfl) (by kernel_rfl) (by kernel_rfl) (fun _ _ _ h => h) (Or.inl ⟨by rfl, ?_⟩) (by assumption) ?_
      rotate_left
      · (intro w' hSw; (try dsimp only at hSw); go_simp) <;> with_reducible rfl
      change wpAnyH Tryd.prog _ _ _ _ _ _ (Act.put _ (some 17) _) _
      (try simp only [Act.put, List.setIfInBounds_toArray, List.set_cons_zero, List.set_cons_succ])
      refine wpAnyH_take (i := 1) (v := ?_) rfl (by kernel_rfl) (by kernel_rfl) (by kernel_rfl) (fun _ _ _ h => h) (Or.inl ⟨by rfl, ?_⟩) (by assumption) ?_
      rotate_left
      · (intro w' hSw; (try dsimp only at hSw); go_simp) <;> with_reducible rfl
      change wpAnyH Tryd.prog _ _ _ _ _ _ (Act.put _ (some 18) _) _
      (try simp only [Act.put, List.setIfInBounds_toArray, List.set_cons_zero, List.set_cons_succ])
      refine wpAnyH_take (i := 2) (v := ?_) rfl (by kernel_rfl) (by kernel_rfl) (by kernel_rfl) (fun _ _ _ h => h) (Or.inl ⟨by rfl, ?_⟩) (by assumption) ?_
      rotate_left
      · (intro w' hSw; (try dsimp only at hSw); go_simp) <;> with_reducible rfl
      change wpAnyH Tryd.prog _ _ _ _ _ _ (Act.put _ (some 19) _) _
      (try simp only [Act.put, List.setIfInBounds_toArray, List.set_cons_zero, List.set_cons_succ])
      refine wpAnyH_take (i := 3) (v := ?_) rfl (by kernel_rfl) (by kernel_rfl) (by kernel_rfl) (fun _ _ _ h => h) (Or.inl ⟨by rfl, ?_⟩) (by assumption) ?_
      rotate_left
      · (intro w' hSw; (try dsimp only at hSw); go_simp) <;> with_reducible rfl
      change wpAnyH Tryd.prog _ _ _ _ _ _ (Act.put _ (some 20) _) _
      (try simp only [Act.put, List.setIfInBounds_toArray, List.set_cons_zero, List.set_cons_succ])
      refine wpAnyH_take (i := 4) (v := ?_) rfl (by kernel_rfl) (by kernel_rfl) (by kernel_rfl) (fun _ _ _ h => h) (Or.inl ⟨by rfl, ?_⟩) (by assumption) ?_
      rotate_left
      · (intro w' hSw; (try dsimp only at hSw); go_simp) <;> with_reducible rfl
      change wpAnyH Tryd.prog _ _ _ _ _ _ (Act.put _ (some 21) _) _
      (try simp only [Act.put, List.setIfInBounds_toArray, List.set_cons_zero, List.set_cons_succ])
      refine wpAnyH_take (i := 5) (v := ?_) rfl (by kernel_rfl) (by kernel_rfl) (by kernel_rfl) (fun _ _ _ h => h) (Or.inl ⟨by rfl, ?_⟩) (by assumption) ?_
      rotate_left
      · (intro w' hSw; (try dsimp only at hSw); go_simp) <;> with_reducible rfl
      change wpAnyH Tryd.prog _ _ _ _ _ _ (Act.put _ (some 22) _) _
      (try simp only [Act.put, List.setIfInBounds_toArray, List.set_cons_zero, List.set_cons_succ])
      refine wpAnyH_take (i := 6) (v := ?_) rfl (by kernel_rfl) (by kernel_rfl) (by kernel_rfl) (fun _ _ _ h => h) (Or.inl ⟨by rfl, ?_⟩) (by assumption) ?_
      rotate_left
      · (intro w' hSw; (try dsimp only at hSw); go_simp) <;> with_reducible rfl
      change wpAnyH Tryd.prog _ _ _ _ _ _ (Act.put _ (some 23) _) _
      (try simp only [Act.put, List.setIfInBounds_toArray, List.set_cons_zero, List.set_cons_succ])
      refine wpAnyH_take (i := 7) (v := ?_) rfl (by kernel_rfl) (by kernel_rfl) (by kernel_rfl) (fun _ _ _ h => h) (Or.inl ⟨by rfl, ?_⟩) (by assumption) ?_
      rotate_left
      · (intro w' hSw; (try dsimp only at hSw); go_simp) <;> with_reducible rfl
      change wpAnyH Tryd.prog _ _ _ _ _ _ (Act.put _ (some 24) _) _
      (try simp only [Act.put, List.setIfInBounds_toArray, List.set_cons_zero, List.set_cons_succ])
      refine wpAnyH_take (i := 8) (v := ?_) rfl (by kernel_rfl) (by kernel_rfl) (by kernel_rfl) (fun _ _ _ h => h) (Or.inl ⟨by rfl, ?_⟩) (by assumption) ?_
      rotate_left
      · (intro w' hSw; (try dsimp only at hSw); go_simp) <;> with_reducible rfl
      change wpAnyH Tryd.prog _ _ _ _ _ _ (Act.put _ (some 25) _) _
      (try simp only [Act.put, List.setIfInBounds_toArray, List.set_cons_zero, List.set_cons_succ])
      refine wpAnyH_done (by kernel_rfl) ?_ _
      go_wp2_with fail
      go_roundw
      case rel => exact ⟨j + 1, by omega, by go_num, X.out.trans hHeld.1⟩
      case measure => simp [intOf]; omega
    · go_wp2_with fail
      go_ret
      exact ⟨rfl, X.out⟩

set_option maxRecDepth 100000 in
set_option maxHeartbeats 4000000 in
theorem eqTermS_by (f : TM) (a a' : Option Addr) (c c' : Nat) (w : World) (hl : tlen f ≤ 1000000000) (hT : MA w 0 f a) (hT' : MA w 0 f a')
    (hK : ∀ j, j < tlen f → ∀ (p1 : Option Addr) (q1 : Nat) (a1 : Option Addr) (c1 : Nat) (p2 : Option Addr) (q2 : Nat) (a2 : Option Addr) (c2 : Nat) (w' : World), Ex w w' → PA w' 0 (tpath f j) p1 → MA w' 0 (tkid f j) a1 → PA w' 0 (tpath f j) p2 → MA w' 0 (tkid f j) a2 → Calls Tryd.prog 22 #[.agg #[.int .i64 (tkind f j), .int .i64 (tnum f j), .string (tname f j), .slice p1 (tpath f j).length q1, .slice a1 (tlen (tkid f j)) c1], .agg #[.int .i64 (tkind f j), .int .i64 (tnum f j), .string (tname f j), .slice p2 (tpath f j).length q2, .slice a2 (tlen (tkid f j)) c2]] w' fun e w'' => e = .returned (.bool true) ∧ Ex w' w'') :
    Calls Tryd.prog 53 #[.slice a (tlen f) c, .slice a' (tlen f) c'] w fun e w' => e = .returned (.bool true) ∧ Ex w w' := by
  have T : Hid (∀ w', Ex w w' → MA w' 0 f a) := fun _ h => MA_below hT h
  have T' : Hid (∀ w', Ex w w' → MA w' 0 f a') := fun _ h => MA_below hT' h
  have I : Hid _ := hK
  clear hT hT' hK
  go_enter Tryd.func53, Tryd.ntmps53
  go_wp2_with fail
  go_loopw [5] (fun i wr => ∃ k : Nat, k ≤ tlen f ∧ i = .int .i64 k ∧ Ex w wr) (fun i _ => tlen f - (intOf i).toNat)
  case atStart => exact ⟨0, Nat.zero_le _, rfl, Ex.refl _⟩
  case round =>
    obtain ⟨j, hk, rfl, hx⟩ := hrel
    have X : Hid (Ex w wr) := hx
    clear hx
    by_cases hlt : j < tlen f
    · obtain ⟨b, o, rfl, _, hbs, hkk⟩ := MA_at (T.out wr X.out) (by omega)
      obtain ⟨e0, e1, e2, ⟨p1, q1, e3, y1⟩, a1, c1, e4, y2⟩ := hkk j hlt
      obtain ⟨b', o', rfl, _, hbs', hkk'⟩ := MA_at (T'.out wr X.out) (by omega)
      obtain ⟨g0, g1, g2, ⟨p2, q2, g3, z1⟩, a2, c2, g4, z2⟩ := hkk' j hlt
      have HI : Hid (∀ w', Ex wr w' → _) := fun w' (h : Ex wr w') => I.out j hlt p1 q1 a1 c1 p2 q2 a2 c2 w' (X.out.trans h) (PA_below (PS_pa.1 y1.1) h) (MA_below y2 h) (PA_below (PS_pa.1 z1.1) h) (MA_below z2 h)
      clear hkk hkk' y1 y2 z1 z2
      have KS : Hid (∀ w', Ex wr w' → (Ex wr w' ∧ w'.cell? ⟨b, o + j * 5, none⟩ = some (.int .i64 (tkind f j)) ∧ w'.cell? ⟨b, o + j * 5 + 1, none⟩ = some (.int .i64 (tnum f j)) ∧ w'.cell? ⟨b, o + j * 5 + 2, none⟩ = some (.string (tname f j)) ∧ w'.cell? ⟨b, o + j * 5 + 3, none⟩ = some (.slice p1 (tpath f j).length q1) ∧ w'.cell? ⟨b, o + j * 5 + 4, none⟩ = some (.slice a1 (tlen (tkid f j)) c1) ∧ w'.cell? ⟨b', o' + j * 5, none⟩ = some (.int .i64 (tkind f j)) ∧ w'.cell? ⟨b', o' + j * 5 + 1, none⟩ = some (.int .i64 (tnum f j)) ∧ w'.cell? ⟨b', o' + j * 5 + 2, none⟩ = some (.string (tname f j)) ∧ w'.cell? ⟨b', o' + j * 5 + 3, none⟩ = some (.slice p2 (tpath f j).length q2) ∧ w'.cell? ⟨b', o' + j * 5 + 4, none⟩ = some (.slice a2 (tlen (tkid f j)) c2))) := fun w' h => ⟨h, h.at e0, h.at e1, h.at e2, h.at e3, h.at e4, h.at g0, h.at g1, h.at g2, h.at g3, h.at g4⟩
      have i0 : (0 : Int) ≤ (j : Int) := by omega
      have i1 : (j : Int) < (tlen f : Int) := by omega
      go_wp2_with fail
      clear e0 g0 e1 g1 e2 g2 e3 g3 e4 g4
      refine wp_region_held_drew (S := fun w' => Ex wr w' ∧ w'.cell? ⟨b, o + j * 5, none⟩ = some (.int .i64 (tkind f j)) ∧ w'.cell? ⟨b, o + j * 5 + 1, none⟩ = some (.int .i64 (tnum f j)) ∧ w'.cell? ⟨b, o + j * 5 + 2, none⟩ = some (.string (tname f j)) ∧ w'.cell? ⟨b, o + j * 5 + 3, none⟩ = some (.slice p1 (tpath f j).length q1) ∧ w'.cell? ⟨b, o + j * 5 + 4, none⟩ = some (.slice a1 (tlen (tkid f j)) c1) ∧ w'.cell? ⟨b', o' + j * 5, none⟩ = some (.int .i64 (tkind f j)) ∧ w'.cell? ⟨b', o' + j * 5 + 1, none⟩ = some (.int .i64 (tnum f j)) ∧ w'.cell? ⟨b', o' + j * 5 + 2, none⟩ = some (.string (tname f j)) ∧ w'.cell? ⟨b', o' + j * 5 + 3, none⟩ = some (.slice p2 (tpath f j).length q2) ∧ w'.cell? ⟨b', o' + j * 5 + 4, none⟩ = some (.slice a2 (tlen (tkid f j)) c2)) (by kernel_rfl) (KS.out _ (Ex.refl _).drew) (fun hHeld => ?_)
      refine wpAnyH_take (i := 0) (v := ?_) rfl (by kernel_rfl) (by kernel_rfl) (by kernel_rfl) (fun _ _ _ h => h) (Or.inl ⟨by rfl, ?_⟩) (by assumption) ?_
      rotate_left
      · (intro w' hSw; (try dsimp only at hSw); go_simp) <;> with_reducible rfl
      change wpAnyH Tryd.prog _ _ _ _ _ _ (Act.put _ (some 17) _) _
      (try simp only [Act.put, List.setIfInBounds_toArray, List.set_cons_zero, List.set_cons_succ])
      refine wpAnyH_take (i := 1) (v := ?_) rfl (by kernel_rfl) (by kernel_rfl) (by kernel_rfl) (fun _ _ _ h => h) (Or.inl ⟨by rfl, ?_⟩) (by assumption) ?_
      rotate_left
      · (intro w' hSw; (try dsimp only at hSw); go_simp) <;> with_reducible rfl
      change wpAnyH Tryd.prog _ _ _ _ _ _ (Act.put _ (some 18) _) _
      (try simp only [Act.put, List.setIfInBounds_toArray, List.set_cons_zero, List.set_cons_succ])
      refine wpAnyH_take (i := 2) (v := ?_) rfl (by kernel_rfl) (by kernel_rfl) (by kernel_rfl) (fun _ _ _ h => h) (Or.inl ⟨by rfl, ?_⟩) (by assumption) ?_
      rotate_left
      · (intro w' hSw; (try dsimp only at hSw); go_simp) <;> with_reducible rfl
      change wpAnyH Tryd.prog _ _ _ _ _ _ (Act.put _ (some 19) _) _
      (try simp only [Act.put, List.setIfInBounds_toArray, List.set_cons_zero, List.set_cons_succ])
      refine wpAnyH_take (i := 3) (v := ?_) rfl (by kernel_rfl) (by kernel_rfl) (by kernel_rfl) (fun _ _ _ h => h) (Or.inl ⟨by rfl, ?_⟩) (by assumption) ?_
      rotate_left
      · (intro w' hSw; (try dsimp only at hSw); go_simp) <;> with_reducible rfl
      change wpAnyH Tryd.prog _ _ _ _ _ _ (Act.put _ (some 20) _) _
      (try simp only [Act.put, List.setIfInBounds_toArray, List.set_cons_zero, List.set_cons_succ])
      refine wpAnyH_take (i := 4) (v := ?_) rfl (by kernel_rfl) (by kernel_rfl) (by kernel_rfl) (fun _ _ _ h => h) (Or.inl ⟨by rfl, ?_⟩) (by assumption) ?_
      rotate_left
      · (intro w' hSw; (try dsimp only at hSw); go_simp) <;> with_reducible rfl
      change wpAnyH Tryd.prog _ _ _ _ _ _ (Act.put _ (some 21) _) _
      (try simp only [Act.put, List.setIfInBounds_toArray, List.set_cons_zero, List.set_cons_succ])
      refine wpAnyH_take (i := 5) (v := ?_) rfl (by kernel_rfl) (by kernel_rfl) (by kernel_rfl) (fun _ _ _ h => h) (Or.inl ⟨by rfl, ?_⟩) (by assumption) ?_
      rotate_left
      · (intro w' hSw; (try dsimp only at hSw); go_simp) <;> with_reducible rfl
      change wpAnyH Tryd.prog _ _ _ _ _ _ (Act.put _ (some 22) _) _
      (try simp only [Act.put, List.setIfInBounds_toArray, List.set_cons_zero, List.set_cons_succ])
      refine wpAnyH_take (i := 6) (v := ?_) rfl (by kernel_rfl) (by kernel_rfl) (by kernel_rfl) (fun _ _ _ h => h) (Or.inl ⟨by rfl, ?_⟩) (by assumption) ?_
      rotate_left
      · (intro w' hSw; (try dsimp only at hSw); go_simp) <;> with_reducible rfl
      change wpAnyH Tryd.prog _ _ _ _ _ _ (Act.put _ (some 23) _) _
      (try simp only [Act.put, List.setIfInBounds_toArray, List.set_cons_zero, List.set_cons_succ])
      refine wpAnyH_take (i := 7) (v := ?_) rfl (by kernel_rfl) (by kernel_rfl) (by kernel_rfl) (fun _ _ _ h => h) (Or.inl ⟨by rfl, ?_⟩) (by assumption) ?_
      rotate_left
      · (intro w' hSw; (try dsimp only at hSw); go_simp) <;> with_reducible rfl
      change wpAnyH Tryd.prog _ _ _ _ _ _ (Act.put _ (some 24) _) _
      (try simp only [Act.put, List.setIfInBounds_toArray, List.set_cons_zero, List.set_cons_succ])
      refine wpAnyH_ready (rs := [8]) (by kernel_rfl) (by simp) ?_
      refine AllReadyH.cons (i := 8) rfl (fun K hK => ?_) AllReadyH.nil
      go_simp
      refine (HI.out _ hHeld.1).mono ?_
      rintro e w1 ⟨rfl, hb1⟩
      have hx1 := Ex.trans (And.left hHeld) hb1
      clear hHeld
      go_wp2_with fail
      refine hK.out _ _ ?_ (fun hHeld => ?_)
      · exact KS.out _ hx1
      clear hK
      (try simp only [Act.put, List.setIfInBounds_toArray, List.set_cons_zero, List.set_cons_succ])
      refine wpAnyH_take (i := 9) (v := ?_) rfl (by kernel_rfl) (by kernel_rfl) (by kernel_rfl) (fun _ _ _ h => h) (Or.inl ⟨by rfl, ?_⟩) (by assumption) ?_
      rotate_left
      · (intro w' hSw; (try dsimp only at hSw); go_simp) <;> with_reducible rfl
      change wpAnyH Tryd.prog _ _ _ _ _ _ (Act.put _ (some 26) _) _
      (try simp only [Act.put, List.setIfInBounds_toArray, List.set_cons_zero, List.set_cons_succ])
      refine wpAnyH_done (by kernel_rfl) ?_ _
      go_wp2_with fail
      go_roundw
      case rel => exact ⟨j + 1, by omega, by go_num, X.out.trans hHeld.1⟩
      case measure => simp [intOf]; omega
    · go_wp2_with fail
      go_ret
      exact ⟨rfl, X.out⟩

set_option maxRecDepth 100000 in
set_option maxHeartbeats 2000000 in
theorem eqTerm_by (k n : Int) (s : ByteArray) (p : List Int) (p1 : Option Addr) (q1 : Nat) (p2 : Option Addr) (q2 : Nat) (f : TM) (a1 : Option Addr) (c1 : Nat) (a2 : Option Addr) (c2 : Nat) (w : World) (hp : p.length ≤ 1000000000) (hP1 : PA w 0 p p1) (hP2 : PA w 0 p p2) (hK : ∀ w', Ex w w' → Calls Tryd.prog 53 #[.slice a1 (tlen f) c1, .slice a2 (tlen f) c2] w' fun e w'' => e = .returned (.bool true) ∧ Ex w' w'') :
    Calls Tryd.prog 22 #[.agg #[.int .i64 k, .int .i64 n, .string s, .slice p1 p.length q1, .slice a1 (tlen f) c1], .agg #[.int .i64 k, .int .i64 n, .string s, .slice p2 p.length q2, .slice a2 (tlen f) c2]] w fun e w' => e = .returned (.bool true) ∧ Ex w w' := by
  have H_hP1 : Hid _ := hP1
  clear hP1
  have H_hP2 : Hid _ := hP2
  clear hP2
  have H_hK : Hid _ := hK
  clear hK
  have N : Hid (Ex w ((w.alloc (.cells #[.int .i64 k, .int .i64 n, .string s, .slice p1 p.length q1, .slice a1 (tlen f) c1] 28)).alloc (.cells #[.int .i64 k, .int .i64 n, .string s, .slice p2 p.length q2, .slice a2 (tlen f) c2] 28))) := (Ex.new _ _).alloc _
  have C : Hid (∀ w', Ex ((w.alloc (.cells #[.int .i64 k, .int .i64 n, .string s, .slice p1 p.length q1, .slice a1 (tlen f) c1] 28)).alloc (.cells #[.int .i64 k, .int .i64 n, .string s, .slice p2 p.length q2, .slice a2 (tlen f) c2] 28)) w' → w'.cell? ⟨w.heap.size, 0, none⟩ = some (.int .i64 k) ∧ w'.cell? ⟨w.heap.size, 1, none⟩ = some (.int .i64 n) ∧ w'.cell? ⟨w.heap.size, 2, none⟩ = some (.string s) ∧ w'.cell? ⟨w.heap.size, 3, none⟩ = some (.slice p1 p.length q1) ∧ w'.cell? ⟨w.heap.size, 4, none⟩ = some (.slice a1 (tlen f) c1) ∧ w'.cell? ⟨w.heap.size + 1, 0, none⟩ = some (.int .i64 k) ∧ w'.cell? ⟨w.heap.size + 1, 1, none⟩ = some (.int .i64 n) ∧ w'.cell? ⟨w.heap.size + 1, 2, none⟩ = some (.string s) ∧ w'.cell? ⟨w.heap.size + 1, 3, none⟩ = some (.slice p2 p.length q2) ∧ w'.cell? ⟨w.heap.size + 1, 4, none⟩ = some (.slice a2 (tlen f) c2)) := fun w' h => ⟨h.at (by simp), h.at (by simp), h.at (by simp), h.at (by simp), h.at (by simp), h.at (by simp), h.at (by simp), h.at (by simp), h.at (by simp), h.at (by simp)⟩
  go_enter Tryd.func22, Tryd.ntmps22
  go_wp2_with fail
  refine (eqIntS_same p p1 p2 q1 q2 _ hp (PA_below H_hP1.out N.out) (PA_below H_hP2.out N.out)).mono ?_
  rintro e w1 ⟨rfl, hb1⟩
  have X1 : Hid (Ex ((w.alloc (.cells #[.int .i64 k, .int .i64 n, .string s, .slice p1 p.length q1, .slice a1 (tlen f) c1] 28)).alloc (.cells #[.int .i64 k, .int .i64 n, .string s, .slice p2 p.length q2, .slice a2 (tlen f) c2] 28)) w1) := hb1
  clear hb1
  obtain ⟨cA0, cA1, cA2, cA3, cA4, cB0, cB1, cB2, cB3, cB4⟩ := C.out w1 X1.out
  go_wp2_with fail
  refine (H_hK.out _ (N.out.trans X1.out)).mono ?_
  rintro e w2 ⟨rfl, hb2⟩
  have X2 : Hid (Ex ((w.alloc (.cells #[.int .i64 k, .int .i64 n, .string s, .slice p1 p.length q1, .slice a1 (tlen f) c1] 28)).alloc (.cells #[.int .i64 k, .int .i64 n, .string s, .slice p2 p.length q2, .slice a2 (tlen f) c2] 28)) w2) := X1.out.trans hb2
  clear hb2 cA0 cA1 cA2 cA3 cA4 cB0 cB1 cB2 cB3 cB4
  obtain ⟨cA0, cA1, cA2, cA3, cA4, cB0, cB1, cB2, cB3, cB4⟩ := C.out w2 X2.out
  go_wp2_with fail
  go_ret
  exact ⟨rfl, N.out.trans X2.out⟩

theorem eqTermS_all : ∀ (d : Nat) (f : TM) (a a' : Option Addr) (c c' : Nat) (w : World), tdep f < d → tlen f ≤ 1000000000 → TSm f → MA w 0 f a → MA w 0 f a' →
    Calls Tryd.prog 53 #[.slice a (tlen f) c, .slice a' (tlen f) c'] w fun e w' => e = .returned (.bool true) ∧ Ex w w' := by
  intro d
  induction d with
  | zero => intro f a a' c c' w hd; omega
  | succ d ih =>
    intro f a a' c c' w hd hl hm hT hT'
    refine eqTermS_by f a a' c c' w hl hT hT' fun j hj p1 q1 a1 c1 p2 q2 a2 c2 w' hx y1 y2 z1 z2 => ?_
    obtain ⟨g1, g2, g3⟩ := TSm_kid hm j hj
    have hdj := tdep_kid f j hj
    exact eqTerm_by _ _ _ _ p1 q1 p2 q2 _ a1 c1 a2 c2 w' g1 y1 z1 (fun w2 hx2 => ih _ a1 a2 c1 c2 w2 (by omega) g2 g3 (MA_below y2 hx2) (MA_below z2 hx2))

theorem eqTermS_same (f : TM) (a a' : Option Addr) (c c' : Nat) (w : World) (hl : tlen f ≤ 1000000000) (hm : TSm f) (hT : MA w 0 f a) (hT' : MA w 0 f a') :
    Calls Tryd.prog 53 #[.slice a (tlen f) c, .slice a' (tlen f) c'] w fun e w' => e = .returned (.bool true) ∧ Ex w w' := eqTermS_all (tdep f + 1) f a a' c c' w (by omega) hl hm hT hT'

end Go.Proofs.YthdihpcpobhadaaDoor

namespace Go.Proofs.YthdihpcpobhadaaDoor

open Go.RowKit Go.Deep

attribute [local go_sem ↓] Go.wp_at_zero Go.wp_at_succ

set_option maxRecDepth 100000 in
set_option maxHeartbeats 2000000 in
theorem markTerm_u {w0 : World} {S : Nat → Prop} (hS : ∀ b, S b → Unf w0 b) (k n : Int) (s : ByteArray) (p : List Int) (pa : Option Addr) (pc : Nat) (f : TM) (a : Option Addr) (c : Nat) (kk : Int) (hP : PS w0 S p pa) (hM : MS w0 S f a) (hSl : ∀ b, S b → b < w0.heap.size) (h0 : 0 ≤ kk) (hk : kk + p.length + (3 * tW f : Nat) ≤ 1000000000) (w : World) (hR : Rs w0 w) :
    Calls Tryd.prog 25 #[.agg #[.int .i64 k, .int .i64 n, .string s, .slice pa p.length pc, .slice a (tlen f) c], .int .i64 kk] w (MkU S kk (p.length + 3 * tW f) w) := by
  have N : Hid (Ex w (w.alloc (.cells #[.int .i64 k, .int .i64 n, .string s, .slice pa p.length pc, .slice a (tlen f) c] 28))) := Ex.new _ _
  have R0 : Hid (Rs w0 (w.alloc (.cells #[.int .i64 k, .int .i64 n, .string s, .slice pa p.length pc, .slice a (tlen f) c] 28))) := hR.ex (Ex.new _ _)
  have hzw : w0.heap.size ≤ w.heap.size := hR.size
  have SL : Hid (∀ b, S b → b < w0.heap.size) := hSl
  have MI : Hid (Calls Tryd.prog 55 #[.slice pa p.length pc, .int .i64 kk] (w.alloc (.cells #[.int .i64 k, .int .i64 n, .string s, .slice pa p.length pc, .slice a (tlen f) c] 28)) (MkU S kk p.length (w.alloc (.cells #[.int .i64 k, .int .i64 n, .string s, .slice pa p.length pc, .slice a (tlen f) c] 28)))) := markInts_u hS p pa pc kk hP h0 (by omega) _ R0.out
  have MM : Hid (∀ (k' : Int) (w' : World), Rs w0 w' → 0 ≤ k' → k' + (3 * tW f : Nat) ≤ 1000000000 → Calls Tryd.prog 56 #[.slice a (tlen f) c, .int .i64 k'] w' (MkU S k' (3 * tW f) w')) := fun k' w' h h1 h2 => markTermS_u hS f a c k' hM h1 h2 w' h
  have c3 : (w.alloc (.cells #[.int .i64 k, .int .i64 n, .string s, .slice pa p.length pc, .slice a (tlen f) c] 28)).cell? ⟨w.heap.size, 3, none⟩ = some (.slice pa p.length pc) := by simp
  have c4 : Hid ((w.alloc (.cells #[.int .i64 k, .int .i64 n, .string s, .slice pa p.length pc, .slice a (tlen f) c] 28)).cell? ⟨w.heap.size, 4, none⟩ = some (.slice a (tlen f) c)) := by show _ = _; simp
  clear hS hP hM hR hSl
  go_enter Tryd.func25, Tryd.ntmps25
  go_wp2_with fail
  refine Calls.mono MI.out ?_
  rintro e w1 ⟨x, rfl, hx0, hx1, hF1, hR1⟩
  have F1 : Hid (FrS S (w.alloc (.cells #[.int .i64 k, .int .i64 n, .string s, .slice pa p.length pc, .slice a (tlen f) c] 28)) w1) := hF1
  have R1 : Hid (Rs (w.alloc (.cells #[.int .i64 k, .int .i64 n, .string s, .slice pa p.length pc, .slice a (tlen f) c] 28)) w1) := hR1
  have d4 : w1.cell? ⟨w.heap.size, 4, none⟩ = some (.slice a (tlen f) c) := hF1.at (fun h => by have := SL.out _ h; have : w.heap.size < w0.heap.size := this; omega) c4.out
  clear hF1 hR1 c3
  go_wp2_with fail
  refine Calls.mono (MM.out x w1 (R0.out.trans R1.out) (by omega) (by omega)) ?_
  rintro e w2 ⟨y, rfl, hy0, hy1, hF2, hR2⟩
  have F2 : Hid (FrS S w1 w2) := hF2
  have R2 : Hid (Rs w1 w2) := hR2
  clear hF2 hR2
  go_wp2_with fail
  go_ret
  exact ⟨y, rfl, by omega, by push_cast at hy1 ⊢; omega, (FrS.of_ex N.out).trans (F1.out.trans F2.out), (Rs.of_ex N.out).trans (R1.out.trans R2.out)⟩

theorem XS_up {w : World} {lo hi : Nat} {p : List ByteArray} {a : Option Addr} (h : XU w lo p a) (hl : w.heap.size ≤ hi) : XS w (fun b => (lo ≤ b ∧ b < hi) ∧ Unf w b) p a := XS_mono h fun _ hb hs => ⟨⟨hs.1, by omega⟩, hs.2⟩
theorem XS_ux {w w' : World} {lo hi : Nat} {p : List ByteArray} {a : Option Addr} (h : XS w (fun b => (lo ≤ b ∧ b < hi) ∧ Unf w b) p a) (hx : Ex w w') : XS w' (fun b => (lo ≤ b ∧ b < hi) ∧ Unf w' b) p a := XS_mono (XS_ks h fun b _ hl => hx.block b hl) fun _ _ hs => ⟨hs.1, hs.2.ex hx⟩
theorem PS_up {w : World} {lo hi : Nat} {p : List Int} {a : Option Addr} (h : PU w lo p a) (hl : w.heap.size ≤ hi) : PS w (fun b => (lo ≤ b ∧ b < hi) ∧ Unf w b) p a := PS_mono h fun _ hb hs => ⟨⟨hs.1, by omega⟩, hs.2⟩
theorem PS_ux {w w' : World} {lo hi : Nat} {p : List Int} {a : Option Addr} (h : PS w (fun b => (lo ≤ b ∧ b < hi) ∧ Unf w b) p a) (hx : Ex w w') : PS w' (fun b => (lo ≤ b ∧ b < hi) ∧ Unf w' b) p a := PS_mono (PS_ks h fun b _ hl => hx.block b hl) fun _ _ hs => ⟨hs.1, hs.2.ex hx⟩
theorem MS_up {w : World} {lo hi : Nat} {p : TM} {a : Option Addr} (h : MU w lo p a) (hl : w.heap.size ≤ hi) : MS w (fun b => (lo ≤ b ∧ b < hi) ∧ Unf w b) p a := MS_mono h fun _ hb hs => ⟨⟨hs.1, by omega⟩, hs.2⟩
theorem MS_ux {w w' : World} {lo hi : Nat} {p : TM} {a : Option Addr} (h : MS w (fun b => (lo ≤ b ∧ b < hi) ∧ Unf w b) p a) (hx : Ex w w') : MS w' (fun b => (lo ≤ b ∧ b < hi) ∧ Unf w' b) p a := MS_mono (MS_ks h fun b _ hl => hx.block b hl) fun _ _ hs => ⟨hs.1, hs.2.ex hx⟩
theorem XS_a {w : World} {S : Nat → Prop} {p : List ByteArray} {a : Option Addr} (h : XS w S p a) : XA w 0 p a := XS_mono h fun _ _ _ => Nat.zero_le _
theorem PS_a {w : World} {S : Nat → Prop} {p : List Int} {a : Option Addr} (h : PS w S p a) : PA w 0 p a := PS_mono h fun _ _ _ => Nat.zero_le _
theorem MS_a {w : World} {S : Nat → Prop} {p : TM} {a : Option Addr} (h : MS w S p a) : MA w 0 p a := MS_mono h fun _ _ _ => Nat.zero_le _

set_option maxRecDepth 100000 in
set_option maxHeartbeats 8000000 in
theorem lawExactKindTerm (ea eb : Addr) (ns : List ByteArray) (na : Option Addr) (nc : Nat) (tl : F) (ta : Option Addr) (tc : Nat) (k n : Int) (s : ByteArray) (p : List Int) (pa : Option Addr) (pc : Nat) (f : TM) (a : Option Addr) (c : Nat) (w : World)
    (hG : Two ea eb w) (hnl : ns.length ≤ 9223372036854775807) (hz : XLm ns) (hX : XA w 0 ns na) (htl : len tl ≤ 9223372036854775807) (hlt : Lm tl) (hT : TA w 0 tl ta) (hs : s.size ≤ 9223372036854775807) (hpl : p.length ≤ 9223372036854775807) (hP : PA w 0 p pa) (hfl : tlen f ≤ 9223372036854775807) (hlm : TLm f) (hM : MA w 0 f a) :
    Calls Tryd.prog 6 #[.slice na ns.length nc, .slice ta (len tl) tc, .agg #[.int .i64 k, .int .i64 n, .string s, .slice pa p.length pc, .slice a (tlen f) c]] w fun e w' => e = .returned (.bool true) ∧ Ex w w' := by
  have G : Hid (∀ w', Ex w w' → Two ea eb w') := fun w' h => hG.ex h
  have X : Hid (∀ w', Ex w w' → XA w' 0 ns na) := fun w' h => XA_below hX h
  have T : Hid (∀ w', Ex w w' → TA w' 0 tl ta) := fun w' h => TA_below hT h
  have P : Hid (∀ w', Ex w w' → PA w' 0 p pa) := fun w' h => PA_below hP h
  have M : Hid (∀ w', Ex w w' → MA w' 0 f a) := fun w' h => MA_below hM h
  clear hG hX hT hP hM
  obtain ⟨W0, hW0⟩ : ∃ W0, W0 = w.alloc (.cells #[.int .i64 k, .int .i64 n, .string s, .slice pa p.length pc, .slice a (tlen f) c] 43) := ⟨_, rfl⟩
  have X0 : Hid (Ex w W0) := hW0 ▸ (Ex.new _ _)
  have C0 : Hid (∀ w', Ex W0 w' → w'.cell? ⟨w.heap.size, 0, none⟩ = some (.int .i64 k) ∧ w'.cell? ⟨w.heap.size, 1, none⟩ = some (.int .i64 n) ∧ w'.cell? ⟨w.heap.size, 2, none⟩ = some (.string s) ∧ w'.cell? ⟨w.heap.size, 3, none⟩ = some (.slice pa p.length pc) ∧ w'.cell? ⟨w.heap.size, 4, none⟩ = some (.slice a (tlen f) c)) := fun w' h => ⟨h.at (hW0 ▸ (by simp)), h.at (hW0 ▸ (by simp)), h.at (hW0 ▸ (by simp)), h.at (hW0 ▸ (by simp)), h.at (hW0 ▸ (by simp))⟩
  have HW0 : Hid (w.alloc (.cells #[.int .i64 k, .int .i64 n, .string s, .slice pa p.length pc, .slice a (tlen f) c] 43) = W0) := hW0.symm
  clear hW0
  go_enter Tryd.func6, Tryd.ntmps6
  go_wp2_with fail
  rw [HW0.out]
  refine Calls.mono (szTexts_any ns na nc 1048576 _ hnl hz (by omega) (by omega) (X.out _ X0.out)) ?_
  rintro e w1 ⟨x, rfl, hx0, hx1, hsm, hb1⟩
  by_cases hx : x < 0
  · go_wp2_with fail
    go_ret
    exact ⟨rfl, X0.out.trans hb1⟩
  have hnl' : ns.length ≤ 1048576 := (hsm (by omega)).1
  have hxw : x + (xW ns : Nat) ≤ 1048576 := (hsm (by omega)).2
  clear hsm hnl
  go_wp2_with fail
  refine ((szType_both (dep tl + 1)).1 tl ta tc 0 x w1 (by omega) htl hlt (by omega) (by omega) (T.out _ (X0.out.trans hb1))).mono ?_
  rintro e w2 ⟨x2, rfl, hx20, hx21, hsm, hb2⟩
  by_cases hx2 : x2 < 0
  · go_wp2_with fail
    go_ret
    exact ⟨rfl, X0.out.trans (hb1.trans hb2)⟩
  have ST : Hid (len tl ≤ 1048576 ∧ Sm tl) := hsm (by omega)
  have htl' : len tl ≤ 1000000000 := by have := ST.out.1; omega
  obtain ⟨q0, q1, q2, q3, q4⟩ := C0.out w2 (hb1.trans hb2)
  have SZ : Hid (s.size ≤ 9223372036854775807) := hs
  have ZZ : Hid (XLm ns) := hz
  have LMM : Hid (TLm f) := hlm
  clear hsm htl hlt hz
  go_wp2_with fail
  refine Calls.mono (szTerm_by k n s p.length pa pc f a c x2 w2 hs hpl (fun m w' h h0 h1 => szTermS_any f a c m w' hfl hlm h0 h1 (M.out _ (X0.out.trans (hb1.trans (hb2.trans h))))) (by omega) (by omega)) ?_
  rintro e w3 ⟨x3, rfl, hx30, hx31, hsm, hb3⟩
  have H1 : Hid (Ex W0 w3) := hb1.trans (hb2.trans hb3)
  clear q0 q1 q2 q3 q4
  by_cases hx3 : x3 < 0
  · go_wp2_with fail
    go_ret
    exact ⟨rfl, X0.out.trans H1.out⟩
  have SF : Hid (p.length ≤ 1048576 ∧ tlen f ≤ 1048576 ∧ TSm f) := (hsm (by omega)).1
  have hwt : x3 + (s.size + p.length + tW f : Nat) ≤ x2 := (hsm (by omega)).2
  have hp : p.length ≤ 1000000000 := by have := SF.out.1; omega
  have hf1 : tlen f ≤ 1000000000 := by have := SF.out.2.1; omega
  have hns : ns.length ≤ 1000000000 := by omega
  have WT : Hid ((xW ns : Int) ≤ 1048576 ∧ ((s.size + p.length + tW f : Nat) : Int) ≤ 1048576) := ⟨by omega, by omega⟩
  clear hsm hpl hfl hlm hs hxw hwt
  have TX : Hid (∀ w', Ex W0 w' → Calls Tryd.prog 16 #[.slice na ns.length nc] w' fun e w'' => ∃ a', e = .returned (.slice a' ns.length ns.length) ∧ XU w'' w'.heap.size ns a' ∧ Ex w' w'') := fun w' h => utoTexts_any ns na nc w' hns (X.out _ (X0.out.trans h))
  have TT : Hid (∀ w', Ex W0 w' → Calls Tryd.prog 17 #[.slice ta (len tl) tc] w' fun e w'' => ∃ a' c', e = .returned (.slice a' (len tl) c') ∧ TA w'' w'.heap.size tl a' ∧ Ex w' w'') := fun w' h => (toType_both (dep tl + 1)).1 tl ta tc 0 w' (by omega) htl' ST.out.2 (T.out _ (X0.out.trans h))
  have TM : Hid (∀ w', Ex W0 w' → Calls Tryd.prog 18 #[.agg #[.int .i64 k, .int .i64 n, .string s, .slice pa p.length pc, .slice a (tlen f) c]] w' (utoTerm_byP k n s p f w')) := fun w' h => utoTerm_by k n s p pa pc f a c w' hp (P.out _ (X0.out.trans h)) fun w2 h2 => utoTermS_any f a c w2 hf1 SF.out.2.2 (M.out _ (X0.out.trans (h.trans h2)))
  have SK : Hid (∀ w' a' b' c' p' q', Ex W0 w' → XA w' 0 ns a' → TA w' 0 tl b' → PA w' 0 p p' → MA w' 0 f q' → Calls Tryd.prog 8 #[.slice a' ns.length ns.length, .slice b' (len tl) c', .agg #[.int .i64 k, .int .i64 n, .string s, .slice p' p.length p.length, .slice q' (tlen f) (tlen f)]] w' (KtP (kindR ns tl k n s p f) w')) := fun w' a' b' c' p' q' _ h1 h2 h3 h4 => sKindTerm_any ns a' ns.length tl b' c' k n s p p' p.length f q' (tlen f) w' h1 hns (Nat.le_refl _) h2 hp h3 h4 (by have := SF.out.2.1; omega) SF.out.2.2
  have IK : Hid (∀ w' a' b' c' p' q', Ex W0 w' → XA w' 0 ns a' → TA w' 0 tl b' → PA w' 0 p p' → MA w' 0 f q' → Calls Tryd.prog 9 #[.slice a' ns.length ns.length, .slice b' (len tl) c', .agg #[.int .i64 k, .int .i64 n, .string s, .slice p' p.length p.length, .slice q' (tlen f) (tlen f)]] w' (KtP (kindR ns tl k n s p f) w')) := fun w' a' b' c' p' q' h0 h1 h2 h3 h4 => iKindTerm_any ea eb ns a' ns.length tl b' c' k n s p p' p.length f q' (tlen f) w' (G.out w' (X0.out.trans h0)) h1 ZZ.out hns h2 htl' SZ.out hp h3 h4 (by have := SF.out.2.1; omega) SF.out.2.2 LMM.out
  have F4 : Hid (fits 4 (kindR ns tl k n s p f).1 = true) := kindR_fits
  obtain ⟨R, hR⟩ : ∃ R, R = kindR ns tl k n s p f := ⟨_, rfl⟩
  rw [← hR] at SK IK F4
  clear hR
  obtain ⟨r, ok⟩ := R
  simp only at F4
  have SR : Hid (len r ≤ 1000000000 ∧ Sm r) := ⟨by have := (fits_sm _ _ F4.out).1; omega, (fits_sm _ _ F4.out).2⟩
  have EV : Hid (∀ w' a' c' a'' c'', TA w' 0 r a' → TA w' 0 r a'' → Calls Tryd.prog 19 #[.agg #[.slice a' (len r) c'], .agg #[.slice a'' (len r) c'']] w' fun e w'' => e = .returned (.bool true) ∧ Ex w' w'') := fun w' a' c' a'' c'' h h' => by
    have := (eqType_both (dep r + 1)).2 r r a' a'' c' c'' 0 0 w' (by omega) SR.out.1 SR.out.2 h h'
    rw [eqT_refl] at this; exact this
  have ET : Hid (∀ w' a' c' a'' c'', TA w' 0 tl a' → TA w' 0 tl a'' → Calls Tryd.prog 21 #[.slice a' (len tl) c', .slice a'' (len tl) c''] w' fun e w'' => e = .returned (.bool true) ∧ Ex w' w'') := fun w' a' c' a'' c'' h h' => by
    have := (eqType_both (dep tl + 1)).1 tl tl a' a'' c' c'' 0 0 w' (by omega) htl' ST.out.2 h h'
    rw [eqT_refl] at this; exact this
  have EM : Hid (∀ w' p' q' p'' q'', PA w' 0 p p' → MA w' 0 f q' → PA w' 0 p p'' → MA w' 0 f q'' → Calls Tryd.prog 22 #[.agg #[.int .i64 k, .int .i64 n, .string s, .slice p' p.length p.length, .slice q' (tlen f) (tlen f)], .agg #[.int .i64 k, .int .i64 n, .string s, .slice p'' p.length p.length, .slice q'' (tlen f) (tlen f)]] w' fun e w'' => e = .returned (.bool true) ∧ Ex w' w'') := fun w' p' q' p'' q'' h1 h2 h3 h4 => eqTerm_by k n s p p' p.length p'' p.length f q' (tlen f) q'' (tlen f) w' hp h1 h3 fun w2 hx => eqTermS_same f q' q'' (tlen f) (tlen f) w2 hf1 SF.out.2.2 (MA_below h2 hx) (MA_below h4 hx)
  have hnok : (ok != ok) = false := by cases ok <;> rfl
  obtain ⟨q0, q1, q2, q3, q4⟩ := C0.out w3 H1.out
  have y0 : w.heap.size < w3.heap.size := World.block_lt_of_cell? _ _ q0
  go_upto_region 11 with fail
  go_cut [8, 9] from 35 to 44 (fun p8 p9 wx => p9 = .bool ok ∧ ∃ b a' c', p8 = .pointer (some ⟨b, 0, none⟩) ∧ wx.cell? ⟨b, 0, none⟩ = some (.slice a' (len r) c') ∧ Ex w3 wx ∧ TA wx 0 r a')
  case first =>
    go_region_with (first | (go_at_call 16; refine (TX.out _ (H1.out.trans (by first | exact (Ex.refl _).drew | exact (Ex.refl _).drew.alloc _))).mono ?_; rintro e wA ⟨aA, rfl, hvA, hbA⟩; have xA : Ex w3 wA := (by refine Ex.trans ?_ hbA; first | exact (Ex.refl _).drew | exact (Ex.refl _).drew.alloc _); have vA : Hid (∀ w', Ex wA w' → XA w' 0 ns aA) := fun _ h => XA_below (XA_lo hvA.a (Nat.zero_le _)) h; obtain ⟨qa0, qa1, qa2, qa3, qa4⟩ := C0.out wA (H1.out.trans xA); have zA : w.heap.size < wA.heap.size := World.block_lt_of_cell? _ _ qa0; first | (have ob : wA.heap[w3.heap.size]? = some (.cells #[.slice none 0 0] 32 (0, 0)) := hbA.blk (heap_alloc_at _ _ rfl)) | skip) | (go_at_call 17; refine (TT.out _ (H1.out.trans (by first | exact xA | exact xA.alloc _))).mono ?_; rintro e wB ⟨aB, cB, rfl, hvB, hbB⟩; have xB : Ex wA wB := (by refine Ex.trans ?_ hbB; first | exact Ex.refl _ | exact Ex.new _ _); have vB : Hid (∀ w', Ex wB w' → TA w' 0 tl aB) := fun _ h => TA_below (TA_lo hvB (Nat.zero_le _)) h; obtain ⟨qb0, qb1, qb2, qb3, qb4⟩ := C0.out wB (H1.out.trans (xA.trans xB)); have zB : w.heap.size < wB.heap.size := World.block_lt_of_cell? _ _ qb0; first | (have ob2 := xB.blk ob) | (have ob2 : wB.heap[wA.heap.size]? = some (.cells #[.slice none 0 0] 32 (0, 0)) := hbB.blk (heap_alloc_at _ _ rfl)) | skip) | (go_at_call 18; refine Calls.mono (TM.out _ (H1.out.trans (xA.trans (xB.trans (by first | exact Ex.refl _ | exact Ex.new _ _))))) ?_; rintro e wC ⟨pC, aC, rfl, hpC, hmC, hbC⟩; have xC : Ex wB wC := (by refine Ex.trans ?_ hbC; first | exact Ex.refl _ | exact Ex.new _ _); have vC : Hid (∀ w', Ex wC w' → PA w' 0 p pC) := fun _ h => PA_below (PA_lo hpC.a (Nat.zero_le _)) h; have vM : Hid (∀ w', Ex wC w' → MA w' 0 f aC) := fun _ h => MA_below (MA_lo hmC.a (Nat.zero_le _)) h; first | (have ob3 := xC.blk ob2) | (have ob3 : wC.heap[wB.heap.size]? = some (.cells #[.slice none 0 0] 32 (0, 0)) := hbC.blk (heap_alloc_at _ _ rfl)) | skip) | (go_at_call 8; refine Calls.mono (SK.out _ aA aB cB pC aC (by first | exact H1.out.trans (xA.trans (xB.trans xC)) | exact (H1.out.trans (xA.trans (xB.trans xC))).alloc _) (vA.out _ (by first | exact xB.trans xC | exact (xB.trans xC).alloc _)) (vB.out _ (by first | exact xC | exact xC.alloc _)) (vC.out _ (by first | exact Ex.refl _ | exact Ex.new _ _)) (vM.out _ (by first | exact Ex.refl _ | exact Ex.new _ _))) ?_; rintro e wD ⟨aD, cD, rfl, hvD, hbD⟩; have xD : Ex wC wD := (by refine Ex.trans ?_ hbD; first | exact Ex.refl _ | exact Ex.new _ _); have vD : TA wD 0 r aD := TA_lo hvD (Nat.zero_le _); have vE : ∀ b u, b < _ → TA (wD.setCell ⟨b, 0, none⟩ u) 0 r aD := fun b u hb => TA_lo (TA_kp hvD ((Kp.refl _ _).set (Or.inl hb) _)) (Nat.zero_le _); have xE : Ex w3 wD := xA.trans (xB.trans (xC.trans xD)); (first | (have ob4 := xD.blk ob3) | (have ob4 : wD.heap[wC.heap.size]? = some (.cells #[.slice none 0 0] 32 (0, 0)) := hbD.blk (heap_alloc_at _ _ rfl)) | skip); first | (have oc := cell_of_one ob4; have oz := free_of_one ob4; have ozl := lt_of_block ob4) | skip))
    all_goals
      go_wp2_with fail
      go_meet
      first
        | exact ⟨rfl, _, aD, cD, rfl, cell_of_one (one_setCell ob4), Ex.set xE (by first | exact Nat.le_refl _ | exact xA.size | exact (xA.trans xB).size | exact (xA.trans (xB.trans xC)).size) _, vE _ _ (by first | exact lt_of_block ob3 | (rw [World.size_alloc]; exact Nat.lt_succ_self _))⟩
        | exact ⟨rfl, wD.heap.size, aD, cD, rfl, World.cell?_alloc_new _ _ _ _, xE.alloc _, TA_below vD (Ex.new _ _)⟩
  case rest =>
    rename World => W2
    obtain ⟨rfl, b2, a2, c2, rfl, k20, xW2, hv2⟩ := hcut
    have X2 : Hid (Ex W0 W2) := H1.out.trans xW2
    have V2 : Hid (∀ w', Ex W2 w' → TA w' 0 r a2) := fun _ h => TA_below hv2 h
    have C2 : Hid (∀ w', Ex W2 w' → w'.cell? ⟨b2, 0, none⟩ = some (.slice a2 (len r) c2)) := fun w' h => h.at k20
    have zb2 : b2 < W2.heap.size := World.block_lt_of_cell? _ _ k20
    clear hv2 q0 q1 q2 q3 q4
    go_wp2_with fail
    refine (TX.out W2 X2.out).mono ?_
    rintro e w4 ⟨a4, rfl, hv4, hb4⟩
    have X4 : Hid (Ex W2 w4) := hb4
    have O4 : Hid (∀ w', Ex w4 w' → XS w' (fun b => (W2.heap.size ≤ b ∧ b < w4.heap.size) ∧ Unf w' b) ns a4) := fun _ h => XS_ux (XS_up hv4 (Nat.le_refl _)) h
    clear hv4
    go_wp2_with fail
    refine (TT.out w4 (X2.out.trans X4.out)).mono ?_
    rintro e w5 ⟨a5, c5, rfl, hv5, hb5⟩
    have X5 : Hid (Ex w4 w5) := hb5
    have O5 : Hid (∀ w', Ex w5 w' → TA w' w4.heap.size tl a5) := fun _ h => TA_below hv5 h
    obtain ⟨q0, q1, q2, q3, q4⟩ := C0.out w5 (X2.out.trans (X4.out.trans hb5))
    have y5 : w.heap.size < w5.heap.size := World.block_lt_of_cell? _ _ q0
    clear hv5 hb5
    go_wp2_with fail
    refine Calls.mono (TM.out w5 (X2.out.trans (X4.out.trans X5.out))) ?_
    rintro e w6 ⟨p6, a6, rfl, hp6, hm6, hb6⟩
    obtain ⟨W6, hW6⟩ : ∃ W6, W6 = w6.alloc (.cells #[.int .i64 k, .int .i64 n, .string s, .slice p6 p.length p.length, .slice a6 (tlen f) (tlen f)] 28) := ⟨_, rfl⟩
    have N6 : Ex w6 W6 := hW6 ▸ Ex.new _ _
    have X6 : Hid (Ex w5 W6) := hb6.trans N6
    have O6 : Hid (∀ w', Ex W6 w' → PS w' (fun b => (w5.heap.size ≤ b ∧ b < w6.heap.size) ∧ Unf w' b) p p6 ∧ MS w' (fun b => (w5.heap.size ≤ b ∧ b < w6.heap.size) ∧ Unf w' b) f a6) := fun _ h => ⟨PS_ux (PS_up hp6 (Nat.le_refl _)) (N6.trans h), MS_ux (MS_up hm6 (Nat.le_refl _)) (N6.trans h)⟩
    have C6 : Hid (∀ w', Ex W6 w' → (w'.cell? ⟨w6.heap.size, 0, none⟩ = some (.int .i64 k) ∧ w'.cell? ⟨w6.heap.size, 1, none⟩ = some (.int .i64 n) ∧ w'.cell? ⟨w6.heap.size, 2, none⟩ = some (.string s) ∧ w'.cell? ⟨w6.heap.size, 3, none⟩ = some (.slice p6 p.length p.length) ∧ w'.cell? ⟨w6.heap.size, 4, none⟩ = some (.slice a6 (tlen f) (tlen f)))) := fun w' h => ⟨h.at (hW6 ▸ World.cell?_alloc_new _ _ _ _), h.at (hW6 ▸ World.cell?_alloc_new _ _ _ _), h.at (hW6 ▸ World.cell?_alloc_new _ _ _ _), h.at (hW6 ▸ World.cell?_alloc_new _ _ _ _), h.at (hW6 ▸ World.cell?_alloc_new _ _ _ _)⟩
    have SZ6 : Hid (W6.heap.size = w6.heap.size + 1 ∧ w5.heap.size ≤ w6.heap.size) := ⟨by rw [hW6, World.size_alloc], hb6.size⟩
    have SZ5 : Hid (w4.heap.size ≤ w5.heap.size ∧ W2.heap.size ≤ w4.heap.size) := ⟨X5.out.size, X4.out.size⟩
    clear q0 q1 q2 q3 q4 hp6 hm6 N6
    obtain ⟨q0, q1, q2, q3, q4⟩ := C0.out w6 (X2.out.trans (X4.out.trans (X5.out.trans hb6)))
    have y6 : w.heap.size < w6.heap.size := World.block_lt_of_cell? _ _ q0
    clear hb6
    go_wp2_with fail
    rw [← hW6]
    clear hW6 q0 q1 q2 q3 q4
    have E6 : Hid (Ex W2 W6) := X4.out.trans (X5.out.trans X6.out)
    refine Calls.mono (IK.out W6 a4 a5 c5 p6 a6 (X2.out.trans E6.out) (XS_a (O4.out _ (X5.out.trans X6.out))) (TA_lo (O5.out _ X6.out) (Nat.zero_le _)) (PS_a (O6.out _ (Ex.refl _)).1) (MS_a (O6.out _ (Ex.refl _)).2)) ?_
    rintro e w7 ⟨a7, c7, rfl, hv7, hb7⟩
    obtain ⟨W7, hW7⟩ : ∃ W7, W7 = w7.alloc (.cells #[.slice a7 (len r) c7] 32) := ⟨_, rfl⟩
    have N7 : Ex w7 W7 := hW7 ▸ Ex.new _ _
    have X7 : Hid (Ex W6 W7) := hb7.trans N7
    have O7 : Hid (∀ w', Ex W7 w' → TA w' W6.heap.size r a7) := fun _ h => TA_below hv7 (N7.trans h)
    have C7 : Hid (∀ w', Ex W7 w' → w'.cell? ⟨w7.heap.size, 0, none⟩ = some (.slice a7 (len r) c7)) := fun w' h => h.at (hW7 ▸ World.cell?_alloc_new _ _ _ _)
    have SZ7 : Hid (W7.heap.size = w7.heap.size + 1 ∧ W6.heap.size ≤ w7.heap.size) := ⟨by rw [hW7, World.size_alloc], hb7.size⟩
    have E7 : Hid (Ex W2 W7) := E6.out.trans X7.out
    have k7 := C2.out w7 (E6.out.trans hb7)
    have z7 : b2 < w7.heap.size := World.block_lt_of_cell? _ _ k7
    clear hv7 N7 hb7
    go_wp2_with fail
    rw [← hW7]
    clear hW7 k7
    refine (EV.out W7 a7 c7 a2 c2 (TA_lo (O7.out _ (Ex.refl _)) (Nat.zero_le _)) (V2.out _ E7.out)).mono ?_
    rintro e w8 ⟨rfl, hb8⟩
    have X8 : Hid (Ex W7 w8) := hb8
    have K0 : Hid (∀ w', Ex W7 w' → Ex W0 w') := fun w' h => X2.out.trans (E7.out.trans h)
    clear hb8
    go_wp2_with fail
    refine (TX.out w8 (K0.out _ X8.out)).mono ?_
    rintro e w9 ⟨a9, rfl, hv9, hb9⟩
    have X9 : Hid (Ex W7 w9) := X8.out.trans hb9
    have V9 : Hid (XA w9 0 ns a9) := XA_lo hv9.a (Nat.zero_le _)
    clear hv9 hb9
    go_wp2_with fail
    refine (eqTexts_same ns a4 a9 ns.length ns.length w9 hns (XS_a (O4.out _ (X5.out.trans (X6.out.trans (X7.out.trans X9.out))))) V9.out).mono ?_
    rintro e w10 ⟨rfl, hb10⟩
    have X10 : Hid (Ex W7 w10) := X9.out.trans hb10
    clear hb10
    go_wp2_with fail
    refine (TT.out w10 (K0.out _ X10.out)).mono ?_
    rintro e w11 ⟨a11, c11, rfl, hv11, hb11⟩
    have X11 : Hid (Ex W7 w11) := X10.out.trans hb11
    have V11 : Hid (TA w11 0 tl a11) := TA_lo hv11 (Nat.zero_le _)
    clear hv11 hb11
    go_wp2_with fail
    refine (ET.out w11 a5 c5 a11 c11 (TA_lo (O5.out _ (X6.out.trans (X7.out.trans X11.out))) (Nat.zero_le _)) V11.out).mono ?_
    rintro e w12 ⟨rfl, hb12⟩
    have X12 : Hid (Ex W7 w12) := X11.out.trans hb12
    have KS : Hid (∀ w', Ex W7 w' → (Ex W7 w' ∧ (w'.cell? ⟨w.heap.size, 0, none⟩ = some (.int .i64 k) ∧ w'.cell? ⟨w.heap.size, 1, none⟩ = some (.int .i64 n) ∧ w'.cell? ⟨w.heap.size, 2, none⟩ = some (.string s) ∧ w'.cell? ⟨w.heap.size, 3, none⟩ = some (.slice pa p.length pc) ∧ w'.cell? ⟨w.heap.size, 4, none⟩ = some (.slice a (tlen f) c)) ∧ (w'.cell? ⟨w6.heap.size, 0, none⟩ = some (.int .i64 k) ∧ w'.cell? ⟨w6.heap.size, 1, none⟩ = some (.int .i64 n) ∧ w'.cell? ⟨w6.heap.size, 2, none⟩ = some (.string s) ∧ w'.cell? ⟨w6.heap.size, 3, none⟩ = some (.slice p6 p.length p.length) ∧ w'.cell? ⟨w6.heap.size, 4, none⟩ = some (.slice a6 (tlen f) (tlen f))))) := fun w' h => ⟨h, C0.out w' (K0.out _ h), C6.out w' (X7.out.trans h)⟩
    clear hb12
    go_wp2_with fail
    go_region_held3 (fun w' => Ex W7 w' ∧ (w'.cell? ⟨w.heap.size, 0, none⟩ = some (.int .i64 k) ∧ w'.cell? ⟨w.heap.size, 1, none⟩ = some (.int .i64 n) ∧ w'.cell? ⟨w.heap.size, 2, none⟩ = some (.string s) ∧ w'.cell? ⟨w.heap.size, 3, none⟩ = some (.slice pa p.length pc) ∧ w'.cell? ⟨w.heap.size, 4, none⟩ = some (.slice a (tlen f) c)) ∧ (w'.cell? ⟨w6.heap.size, 0, none⟩ = some (.int .i64 k) ∧ w'.cell? ⟨w6.heap.size, 1, none⟩ = some (.int .i64 n) ∧ w'.cell? ⟨w6.heap.size, 2, none⟩ = some (.string s) ∧ w'.cell? ⟨w6.heap.size, 3, none⟩ = some (.slice p6 p.length p.length) ∧ w'.cell? ⟨w6.heap.size, 4, none⟩ = some (.slice a6 (tlen f) (tlen f)))) ((refine KS.out _ ?_; first | exact X12.out.drew | exact Ex.trans (And.left ‹Ex _ _ ∧ _›) ‹Ex _ _› | exact (And.left ‹Ex _ _ ∧ _›))) (first | (go_at_call 18; refine Calls.mono (TM.out _ (K0.out _ (And.left ‹Ex _ _ ∧ _›))) ?_; rintro e w13 ⟨p13, a13, rfl, hp13, hm13, hb13⟩) | (go_at_call 22; refine (EM.out _ p6 a6 p13 a13 (PS_a (O6.out _ (X7.out.trans (And.left ‹Ex _ _ ∧ _›))).1) (MS_a (O6.out _ (X7.out.trans (And.left ‹Ex _ _ ∧ _›))).2) (PA_lo hp13.a (Nat.zero_le _)) (MA_lo hm13.a (Nat.zero_le _))).mono ?_; rintro e w14 ⟨rfl, hb14⟩))
    have X14 : Hid (Ex W7 w14) := And.left ‹Ex W7 w14 ∧ _›
    have E14 : Hid (Ex W2 w14) := E7.out.trans X14.out
    have O414 := O4.out w14 (X5.out.trans (X6.out.trans (X7.out.trans X14.out)))
    have O514 : Hid (TA w14 w4.heap.size tl a5) := O5.out w14 (X6.out.trans (X7.out.trans X14.out))
    have O614 := O6.out w14 (X7.out.trans X14.out)
    have O714 : Hid (TA w14 W6.heap.size r a7) := O7.out w14 X14.out
    have B614 : Hid (w14.cell? ⟨w6.heap.size, 0, none⟩ = some (.int .i64 k) ∧ w14.cell? ⟨w6.heap.size, 1, none⟩ = some (.int .i64 n) ∧ w14.cell? ⟨w6.heap.size, 2, none⟩ = some (.string s) ∧ w14.cell? ⟨w6.heap.size, 3, none⟩ = some (.slice p6 p.length p.length) ∧ w14.cell? ⟨w6.heap.size, 4, none⟩ = some (.slice a6 (tlen f) (tlen f))) := C6.out w14 (X7.out.trans X14.out)
    have B714 : Hid (w14.cell? ⟨w7.heap.size, 0, none⟩ = some (.slice a7 (len r) c7)) := C7.out w14 X14.out
    have zw6 : w6.heap.size < w14.heap.size := by have := (X7.out.trans X14.out).size; have := SZ6.out; omega
    have xwn : ns.length ≤ xW ns := by unfold xW; omega
    have hwt := WT.out
    go_wp2_with fail
    refine Calls.mono (markTexts_u (w0 := w14) (S := fun b => (W2.heap.size ≤ b ∧ b < w4.heap.size) ∧ Unf w14 b) (fun b h => h.2) ns a4 ns.length 1 O414 (by omega) (by omega) w14 (Rs.refl _)) ?_
    rintro e w15 ⟨y1, rfl, hy10, hy11, hF15, hR15⟩
    have F15 : Hid (FrS (fun b => (W2.heap.size ≤ b ∧ b < w4.heap.size) ∧ Unf w14 b) w14 w15) := hF15
    have R15 : Hid (Rs w14 w15) := hR15
    have O515 : Hid (TA w15 w4.heap.size tl a5) := TA_kp O514.out ⟨hF15.size, fun b h1 h2 => hF15.block b h2 fun h => by have := h.1.2; omega⟩
    clear hF15 hR15 O414
    go_wp2_with fail
    refine (markTypeS_any (dep tl + 1) tl a5 c5 w4.heap.size y1 w15 (by omega) htl' ST.out.2 O515.out).mono ?_
    rintro e w16 ⟨rfl, hb16⟩
    have X16 : Hid (Ex w15 w16) := hb16
    have step1 : ∀ (q : Addr) (v : Value), w4.heap.size ≤ q.block → w14.cell? q = some v → w16.cell? q = some v := fun q v hq hc => hb16.at (F15.out.at (fun h => by have := h.1.2; omega) hc)
    have g46 : w4.heap.size ≤ w6.heap.size := by have := SZ6.out; have := SZ5.out; omega
    have q0 := step1 ⟨w6.heap.size, 0, none⟩ _ g46 B614.out.1
    have q1 := step1 ⟨w6.heap.size, 1, none⟩ _ g46 B614.out.2.1
    have q2 := step1 ⟨w6.heap.size, 2, none⟩ _ g46 B614.out.2.2.1
    have q3 := step1 ⟨w6.heap.size, 3, none⟩ _ g46 B614.out.2.2.2.1
    have q4 := step1 ⟨w6.heap.size, 4, none⟩ _ g46 B614.out.2.2.2.2
    have B716 : Hid (w16.cell? ⟨w7.heap.size, 0, none⟩ = some (.slice a7 (len r) c7)) := step1 ⟨w7.heap.size, 0, none⟩ _ (by show w4.heap.size ≤ w7.heap.size; have := SZ7.out; have := SZ6.out; omega) B714.out
    have O716 : Hid (TA w16 W6.heap.size r a7) := TA_below (TA_kp O714.out ⟨F15.out.size, fun b h1 h2 => F15.out.block b h2 fun h => by have := h.1.2; have := SZ6.out; omega⟩) hb16
    have E16 : Hid (Ex W2 w16) := (F15.out.to_ex E14.out (fun k hk => hk.1.1)).trans hb16
    clear step1 hb16
    go_wp2_with fail
    refine Calls.mono (markTerm_u (w0 := w14) (S := fun b => (w5.heap.size ≤ b ∧ b < w6.heap.size) ∧ Unf w14 b) (fun b h => h.2) k n s p p6 p.length f a6 (tlen f) y1 O614.1 O614.2 (fun b h => by have := h.1.2; omega) (by omega) (by omega) w16 (R15.out.ex X16.out)) ?_
    rintro e w17 ⟨y2, rfl, hy20, hy21, hF17, hR17⟩
    have dy : decide (y2 < 0) = false := decide_eq_false (by omega)
    have B717 := hF17.at (fun h => by have h' : w7.heap.size < w6.heap.size := h.1.2; have := SZ7.out; have := SZ6.out; omega) B716.out
    have O717 : Hid (TA w17 W6.heap.size r a7) := TA_kp O716.out ⟨hF17.size, fun b h1 h2 => hF17.block b h2 fun h => by have := h.1.2; have := SZ6.out; omega⟩
    have E17 : Hid (Ex W2 w17) := hF17.to_ex E16.out (fun k hk => by have := SZ5.out; have := hk.1.1; omega)
    have q8 := C2.out w17 E17.out
    clear q0 q1 q2 q3 q4 hF17 hR17 O614 hwt
    go_wp2_with fail
    refine (EV.out w17 a7 c7 a2 c2 (TA_lo O717.out (Nat.zero_le _)) (V2.out _ E17.out)).mono ?_
    rintro e w18 ⟨rfl, hb18⟩
    have E18 : Hid (Ex W2 w18) := E17.out.trans hb18
    have O7w : Hid (∀ w', Ex w18 w' → TA w' 0 r a7) := fun _ h => TA_below (TA_lo O717.out (Nat.zero_le _)) (hb18.trans h)
    have B7w : Hid (∀ w', Ex w18 w' → w'.cell? ⟨w7.heap.size, 0, none⟩ = some (.slice a7 (len r) c7)) := fun _ h => h.at (hb18.at B717)
    have HL : Hid (∀ w', Ex w18 w' → Calls Tryd.prog 27 #[.agg #[.slice a7 (len r) c7], .int .i64 1] w' fun e w'' => e = .returned (.int .i64 1) ∧ Ex w' w'') := fun w' h => heldType_any r a7 c7 0 1 w' SR.out.1 SR.out.2 (by omega) (O7w.out w' h)
    have q9 := B7w.out w18 (Ex.refl _)
    clear B717 q8 hb18
    go_wp2_with fail
    refine (markType_any r a7 c7 0 1 w18 SR.out.1 SR.out.2 (O7w.out _ (Ex.refl _))).mono ?_
    rintro e w19 ⟨rfl, hb19⟩
    have X19 : Hid (Ex w18 w19) := hb19
    have q10 := hb19.at q9
    clear q9 hb19
    go_wp2_with fail
    refine (HL.out w19 X19.out).mono ?_
    rintro e w20 ⟨rfl, hb20⟩
    have X20 : Hid (Ex w18 w20) := X19.out.trans hb20
    have H2 : Hid (Ex W0 w20) := X2.out.trans (E18.out.trans X20.out)
    obtain ⟨q0, q1, q2, q3, q4⟩ := C0.out w20 H2.out
    have y20 : w.heap.size < w20.heap.size := World.block_lt_of_cell? _ _ q0
    clear q10 hb20
    go_upto_region 38 with fail
    go_cut [18, 19] from 115 to 124 (fun p18 p19 wx => p19 = .bool ok ∧ ∃ b a' c', p18 = .pointer (some ⟨b, 0, none⟩) ∧ wx.cell? ⟨b, 0, none⟩ = some (.slice a' (len r) c') ∧ Ex w20 wx ∧ TA wx 0 r a')
    case first =>
      go_region_with (first | (go_at_call 16; refine (TX.out _ (H2.out.trans (by first | exact (Ex.refl _).drew | exact (Ex.refl _).drew.alloc _))).mono ?_; rintro e wA ⟨aA, rfl, hvA, hbA⟩; have xA : Ex w20 wA := (by refine Ex.trans ?_ hbA; first | exact (Ex.refl _).drew | exact (Ex.refl _).drew.alloc _); have vA : Hid (∀ w', Ex wA w' → XA w' 0 ns aA) := fun _ h => XA_below (XA_lo hvA.a (Nat.zero_le _)) h; obtain ⟨qa0, qa1, qa2, qa3, qa4⟩ := C0.out wA (H2.out.trans xA); have zA : w.heap.size < wA.heap.size := World.block_lt_of_cell? _ _ qa0; first | (have ob : wA.heap[w20.heap.size]? = some (.cells #[.slice none 0 0] 32 (0, 0)) := hbA.blk (heap_alloc_at _ _ rfl)) | skip) | (go_at_call 17; refine (TT.out _ (H2.out.trans (by first | exact xA | exact xA.alloc _))).mono ?_; rintro e wB ⟨aB, cB, rfl, hvB, hbB⟩; have xB : Ex wA wB := (by refine Ex.trans ?_ hbB; first | exact Ex.refl _ | exact Ex.new _ _); have vB : Hid (∀ w', Ex wB w' → TA w' 0 tl aB) := fun _ h => TA_below (TA_lo hvB (Nat.zero_le _)) h; obtain ⟨qb0, qb1, qb2, qb3, qb4⟩ := C0.out wB (H2.out.trans (xA.trans xB)); have zB : w.heap.size < wB.heap.size := World.block_lt_of_cell? _ _ qb0; first | (have ob2 := xB.blk ob) | (have ob2 : wB.heap[wA.heap.size]? = some (.cells #[.slice none 0 0] 32 (0, 0)) := hbB.blk (heap_alloc_at _ _ rfl)) | skip) | (go_at_call 18; refine Calls.mono (TM.out _ (H2.out.trans (xA.trans (xB.trans (by first | exact Ex.refl _ | exact Ex.new _ _))))) ?_; rintro e wC ⟨pC, aC, rfl, hpC, hmC, hbC⟩; have xC : Ex wB wC := (by refine Ex.trans ?_ hbC; first | exact Ex.refl _ | exact Ex.new _ _); have vC : Hid (∀ w', Ex wC w' → PA w' 0 p pC) := fun _ h => PA_below (PA_lo hpC.a (Nat.zero_le _)) h; have vM : Hid (∀ w', Ex wC w' → MA w' 0 f aC) := fun _ h => MA_below (MA_lo hmC.a (Nat.zero_le _)) h; first | (have ob3 := xC.blk ob2) | (have ob3 : wC.heap[wB.heap.size]? = some (.cells #[.slice none 0 0] 32 (0, 0)) := hbC.blk (heap_alloc_at _ _ rfl)) | skip) | (go_at_call 9; refine Calls.mono (IK.out _ aA aB cB pC aC (by first | exact H2.out.trans (xA.trans (xB.trans xC)) | exact (H2.out.trans (xA.trans (xB.trans xC))).alloc _) (vA.out _ (by first | exact xB.trans xC | exact (xB.trans xC).alloc _)) (vB.out _ (by first | exact xC | exact xC.alloc _)) (vC.out _ (by first | exact Ex.refl _ | exact Ex.new _ _)) (vM.out _ (by first | exact Ex.refl _ | exact Ex.new _ _))) ?_; rintro e wD ⟨aD, cD, rfl, hvD, hbD⟩; have xD : Ex wC wD := (by refine Ex.trans ?_ hbD; first | exact Ex.refl _ | exact Ex.new _ _); have vD : TA wD 0 r aD := TA_lo hvD (Nat.zero_le _); have vE : ∀ b u, b < _ → TA (wD.setCell ⟨b, 0, none⟩ u) 0 r aD := fun b u hb => TA_lo (TA_kp hvD ((Kp.refl _ _).set (Or.inl hb) _)) (Nat.zero_le _); have xE : Ex w20 wD := xA.trans (xB.trans (xC.trans xD)); (first | (have ob4 := xD.blk ob3) | (have ob4 : wD.heap[wC.heap.size]? = some (.cells #[.slice none 0 0] 32 (0, 0)) := hbD.blk (heap_alloc_at _ _ rfl)) | skip); first | (have oc := cell_of_one ob4; have oz := free_of_one ob4; have ozl := lt_of_block ob4) | skip))
      all_goals
        go_wp2_with fail
        go_meet
        first
          | exact ⟨rfl, _, aD, cD, rfl, cell_of_one (one_setCell ob4), Ex.set xE (by first | exact Nat.le_refl _ | exact xA.size | exact (xA.trans xB).size | exact (xA.trans (xB.trans xC)).size) _, vE _ _ (by first | exact lt_of_block ob3 | (rw [World.size_alloc]; exact Nat.lt_succ_self _))⟩
          | exact ⟨rfl, wD.heap.size, aD, cD, rfl, World.cell?_alloc_new _ _ _ _, xE.alloc _, TA_below vD (Ex.new _ _)⟩
    case rest =>
      rename World => W18
      obtain ⟨rfl, b18, a18, c18, rfl, k18, xW18, hv18⟩ := hcut
      have X18 : Hid (Ex w18 W18) := X20.out.trans xW18
      have V18 : Hid (TA W18 0 r a18) := hv18
      have q8 := C2.out W18 (E18.out.trans X18.out)
      clear q0 q1 q2 q3 q4 hv18
      go_wp2_with fail
      refine (EV.out _ a18 c18 a2 c2 V18.out (V2.out _ (E18.out.trans X18.out))).mono ?_
      rintro e w21 ⟨rfl, hb21⟩
      have X21 : Hid (Ex w18 w21) := X18.out.trans hb21
      have q9 := B7w.out w21 X21.out
      clear q8 k18 hb21
      go_wp2_with fail
      refine (HL.out w21 X21.out).mono ?_
      rintro e w22 ⟨rfl, hb22⟩
      go_wp2_with fail
      go_ret
      exact ⟨rfl, X0.out.trans (X2.out.trans (E18.out.trans (X21.out.trans hb22)))⟩

end Go.Proofs.YthdihpcpobhadaaDoor

namespace Go.Proofs.YthdihpcpobhadaaDoor

open Go.RowKit Go.Deep

attribute [local go_sem ↓] Go.wp_at_zero Go.wp_at_succ

/-- All lists and names are of a length that is one. -/
def BLm : BD → Prop
  | .nil => True
  | .node _ _ _ _ .nil => True
  | .node _ _ (_, ns, fn, ts, tz, ez) tb (.node _ _ _ eb r) => ns.length ≤ 9223372036854775807 ∧ XLm ns ∧ fn.size ≤ 9223372036854775807 ∧ tlen ts ≤ 9223372036854775807 ∧ TLm ts ∧ blen tb ≤ 9223372036854775807 ∧ BLm tb ∧ tlen tz ≤ 9223372036854775807 ∧ TLm tz ∧ blen eb ≤ 9223372036854775807 ∧ BLm eb ∧ tlen ez ≤ 9223372036854775807 ∧ TLm ez ∧ BLm r
theorem BLm_at : ∀ {f : BD}, BLm f → ∀ i, i < blen f → (bnames f i).length ≤ 9223372036854775807 ∧ XLm (bnames f i) ∧ (bfn f i).size ≤ 9223372036854775807 ∧ tlen (bterms f i) ≤ 9223372036854775807 ∧ TLm (bterms f i) ∧ blen (bthen f i) ≤ 9223372036854775807 ∧ BLm (bthen f i) ∧ tlen (btsay f i) ≤ 9223372036854775807 ∧ TLm (btsay f i) ∧ blen (belse f i) ≤ 9223372036854775807 ∧ BLm (belse f i) ∧ tlen (besay f i) ≤ 9223372036854775807 ∧ TLm (besay f i)
  | .nil, _, i, h => by simp [blen] at h
  | .node _ _ _ _ .nil, _, i, h => by simp [blen] at h
  | .node _ _ (_, _, _, _, _, _) _ (.node _ _ _ _ r), hs, 0, _ => ⟨hs.1, hs.2.1, hs.2.2.1, hs.2.2.2.1, hs.2.2.2.2.1, hs.2.2.2.2.2.1, hs.2.2.2.2.2.2.1, hs.2.2.2.2.2.2.2.1, hs.2.2.2.2.2.2.2.2.1, hs.2.2.2.2.2.2.2.2.2.1, hs.2.2.2.2.2.2.2.2.2.2.1, hs.2.2.2.2.2.2.2.2.2.2.2.1, hs.2.2.2.2.2.2.2.2.2.2.2.2.1⟩
  | .node _ _ (_, _, _, _, _, _) _ (.node _ _ _ _ r), hs, i + 1, h => BLm_at hs.2.2.2.2.2.2.2.2.2.2.2.2.2 i (by simp only [blen] at h; omega)

/-- How much bindings count. -/
def bW : BD → Nat
  | .nil => 0
  | .node _ _ _ _ .nil => 0
  | .node _ _ (_, ns, fn, ts, tz, ez) tb (.node _ _ _ eb r) => 1 + (xW ns + fn.size + tW ts + (bW tb + tW tz) + (bW eb + tW ez)) + bW r
def bWk (f : BD) (j : Nat) : Nat := xW (bnames f j) + (bfn f j).size + tW (bterms f j) + (bW (bthen f j) + tW (btsay f j)) + (bW (belse f j) + tW (besay f j))
theorem bW_sum : ∀ f : BD, bW f = blen f + sumN (bWk f) (blen f)
  | .nil => rfl
  | .node _ _ _ _ .nil => rfl
  | .node a b (k, ns, fn, ts, tz, ez) tb (.node c d q eb r) => by
    have h : sumN (fun i => bWk (.node a b (k, ns, fn, ts, tz, ez) tb (.node c d q eb r)) (i + 1)) (blen r) = sumN (bWk r) (blen r) := sumN_eq _ fun i _ => rfl
    rw [blen, sumN_shift, h, bW, bW_sum r]
    show _ = _ + ((xW ns + fn.size + tW ts + (bW tb + tW tz) + (bW eb + tW ez)) + _)
    omega

def BSmTo (f : BD) (k : Nat) : Prop := ∀ j, j < k → (bnames f j).length ≤ 1048576 ∧ (tlen (bterms f j) ≤ 1048576 ∧ TSm (bterms f j)) ∧ ((blen (bthen f j) ≤ 1048576 ∧ BSm (bthen f j)) ∧ tlen (btsay f j) ≤ 1048576 ∧ TSm (btsay f j)) ∧ ((blen (belse f j) ≤ 1048576 ∧ BSm (belse f j)) ∧ tlen (besay f j) ≤ 1048576 ∧ TSm (besay f j))
theorem BSm_of : ∀ {f : BD}, BSmTo f (blen f) → BSm f
  | .nil, _ => trivial
  | .node _ _ _ _ .nil, _ => trivial
  | .node _ _ (_, ns, fn, ts, tz, ez) tb (.node _ _ _ eb r), h => by
    obtain ⟨h1, ⟨h2, h3⟩, ⟨⟨h4, h5⟩, h6, h7⟩, ⟨h8, h9⟩, ha, hb⟩ := h 0 (by simp [blen])
    simp only [bnames, bterms, bthen, btsay, belse, besay] at h1 h2 h3 h4 h5 h6 h7 h8 h9 ha hb
    exact ⟨by omega, by omega, h3, by omega, h5, by omega, h7, by omega, h9, by omega, hb, BSm_of fun j hj => h (j + 1) (by simp only [blen]; omega)⟩

/-- All lists and names of a function are of a length that is one. -/
def PLm (f : PM) : Prop := f.name.size ≤ 9223372036854775807 ∧ f.params.length ≤ 9223372036854775807 ∧ XLm f.params ∧ blen f.binds ≤ 9223372036854775807 ∧ BLm f.binds ∧ tlen f.says ≤ 9223372036854775807 ∧ TLm f.says
/-- All lists are of a length that can be counted. -/
def PSk (f : PM) : Prop := f.params.length ≤ 1048576 ∧ (blen f.binds ≤ 1048576 ∧ BSm f.binds) ∧ tlen f.says ≤ 1048576 ∧ TSm f.says
/-- How much a function counts, and how much functions. -/
def pW (f : PM) : Nat := f.name.size + xW f.params + (bW f.binds + tW f.says)
def qWk (l : List PM) (j : Nat) : Nat := pW (l.getD j pm0)
def qW (l : List PM) : Nat := l.length + sumN (qWk l) l.length
theorem qW_sum (l : List PM) : qW l = l.length + sumN (qWk l) l.length := rfl
def PSkTo (l : List PM) (k : Nat) : Prop := ∀ j, j < k → PSk (l.getD j pm0)

end Go.Proofs.YthdihpcpobhadaaDoor
