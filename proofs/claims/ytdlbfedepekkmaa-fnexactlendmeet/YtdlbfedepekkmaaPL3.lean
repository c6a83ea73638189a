/- Walks: LendMeet of both. -/
import Derived.Test.YtdlbfedepekkmaaPL2

namespace Go.Proofs.Ytdlbfedepekkmaa

open Go.RowKit Go.Deep

attribute [local go_sem ↓] Go.wp_at_zero Go.wp_at_succ

theorem list_ne {p q : List Int} {i : Nat} (h : p.getD i 0 ≠ q.getD i 0) : (p == q) = false := by
  cases hx : p == q with
  | false => rfl
  | true => rw [beq_iff_eq] at hx; subst hx; exact absurd rfl h
theorem list_eq {p q : List Int} (hl : p.length = q.length) (h : ∀ i, i < p.length → p.getD i 0 = q.getD i 0) : (p == q) = true := by
  rw [beq_iff_eq]
  apply List.ext_getElem hl
  intro i h1 h2
  have := h i h1
  simpa [List.getD, h1, h2] using this

set_option maxHeartbeats 1000000 in
theorem sEqual_any (p q : List Int) (a a' : Option Addr) (c c' : Nat) (w : World) (hP : PA w 0 p a) (hQ : PA w 0 q a') (hl : p.length ≤ 1000000000) (hpq : p.length = q.length) :
    Calls Try.prog 27 #[.slice a p.length c, .slice a' q.length c'] w fun e w' => e = .returned (.bool (p == q)) ∧ Ex w w' := by
  have P : Hid (∀ w', Ex w w' → PA w' 0 p a) := fun _ h => PA_below hP h
  have Q : Hid (∀ w', Ex w w' → PA w' 0 q a') := fun _ h => PA_below hQ h
  have HL : Hid (p.length = q.length) := hpq
  clear hP hQ
  rw [← hpq]
  clear hpq
  go_enter Try.func27, Try.ntmps27
  go_wp2_with fail
  go_loopw [13] (fun i wr => ∃ (k : Nat), k ≤ p.length ∧ i = .int .i64 k ∧ (∀ j, j < k → p.getD j 0 = q.getD j 0) ∧ Ex w wr) (fun i _ => p.length - (intOf i).toNat)
  case atStart => exact ⟨0, by omega, rfl, fun j hj => by omega, Ex.refl _⟩
  case round =>
    obtain ⟨k, hk, rfl, hall, hx⟩ := hrel
    have A : Hid (∀ j, j < k → p.getD j 0 = q.getD j 0) := hall
    have X : Hid (Ex w wr) := hx
    clear hall hx
    by_cases hlt : k < p.length
    · obtain ⟨b, o, rfl, hbs, _, hc⟩ := PA_at (P.out wr X.out) (by omega)
      obtain ⟨b', o', rfl, hbs', _, hc'⟩ := PA_at (Q.out wr X.out) (by rw [← HL.out]; omega)
      have ck := hc k hlt
      have ck' := hc' k (by rw [← HL.out]; exact hlt)
      have HU : Hid (p.getD k 0 = q.getD k 0 → ∀ j, j < k + 1 → p.getD j 0 = q.getD j 0) := fun h => up_to A.out h
      have HY : Hid (p.getD k 0 ≠ q.getD k 0 → (p == q) = false) := list_ne
      clear hc hc'
      obtain ⟨x, hx⟩ : ∃ x, p.getD k 0 = x := ⟨_, rfl⟩
      obtain ⟨y, hy⟩ : ∃ y, q.getD k 0 = y := ⟨_, rfl⟩
      rw [hx] at ck HY HU
      rw [hy] at ck' HY HU
      clear hx hy
      by_cases h0 : x = y
      · subst h0
        go_wp2_with fail
        go_region
        go_wp2_with fail
        go_roundw
        case rel => exact ⟨k + 1, by omega, by go_num, by first | exact HU.out rfl | exact HU.out trivial, by first | exact X.out.drew | exact X.out.drewN _⟩
        case measure => simp [intOf]; omega
      · have HR : Hid ((p == q) = false) := HY.out h0
        have e0 : (x != y) = true := by simp [h0]
        go_wp2_with fail
        go_region
        go_wp2_with fail
        go_ret
        exact ⟨ret_b HR.out.symm, by first | exact X.out.drew | exact X.out.drewN _⟩
    · have HR : Hid ((p == q) = true) := list_eq HL.out fun i hi => A.out i (by omega)
      go_wp2_with fail
      go_ret
      exact ⟨ret_b HR.out.symm, X.out⟩

theorem meetL_take (p q : List Int) : (p.take (min p.length q.length) == q.take (min p.length q.length)) = meetL p q := by
  induction p generalizing q with
  | nil => simp [meetL]
  | cons x p ih =>
    cases q with
    | nil => simp [meetL]
    | cons y q =>
      have : min (x :: p).length (y :: q).length = min p.length q.length + 1 := by simp only [List.length_cons]; omega
      rw [this, List.take_succ_cons, List.take_succ_cons, meetL, ← ih q]
      exact List.cons_beq_cons

theorem PA_take {w : World} {lo : Nat} {p : List Int} {a : Option Addr} (n : Nat) (h : PA w lo p a) : PA w lo (p.take n) a := by
  rcases h with h | ⟨b, o, e, hb, hc⟩
  · exact Or.inl (by rw [List.length_take]; omega)
  · refine Or.inr ⟨b, o, e, hb, fun i hi => ?_⟩
    have h1 : i < n ∧ i < p.length := by simpa [Nat.lt_min] using hi
    rw [hc i h1.2]
    simp [List.getD, h1.1]

set_option maxHeartbeats 1000000 in
theorem pathsMeet_any (p q : List Int) (a a' : Option Addr) (c c' : Nat) (w : World) (hP : PA w 0 p a) (hQ : PA w 0 q a') (hl : p.length ≤ 1000000000) (hl' : q.length ≤ 1000000000) (hc : p.length ≤ c) (hc' : q.length ≤ c') :
    Calls Try.prog 24 #[.slice a p.length c, .slice a' q.length c'] w fun e w' => e = .returned (.bool (meetL p q)) ∧ Ex w w' := by
  have I : Hid (∀ n w', n ≤ p.length → n ≤ q.length → Ex w w' → Calls Try.prog 27 #[.slice a n c, .slice a' n c'] w' fun e w'' => e = .returned (.bool (p.take n == q.take n)) ∧ Ex w' w'') := fun n w' h1 h2 h3 => by
    have := sEqual_any (p.take n) (q.take n) a a' c c' w' (PA_take n (PA_below hP h3)) (PA_take n (PA_below hQ h3)) (by rw [List.length_take]; omega) (by rw [List.length_take, List.length_take]; omega)
    rwa [List.length_take, List.length_take, Nat.min_eq_left h1, Nat.min_eq_left h2] at this
  have HT : Hid ((p.take (min p.length q.length) == q.take (min p.length q.length)) = meetL p q) := meetL_take p q
  clear hP hQ
  have b1 : (q.length : Int) ≤ (c' : Int) := by omega
  have b2 : (p.length : Int) ≤ (c : Int) := by omega
  have b3 : (0 : Int) ≤ (q.length : Int) := by omega
  have b4 : (0 : Int) ≤ (p.length : Int) := by omega
  by_cases hm : q.length < p.length
  · have b5 : (q.length : Int) ≤ (c : Int) := by omega
    have HT2 : Hid ((p.take q.length == q.take q.length) = meetL p q) := by have := HT.out; rwa [Nat.min_eq_right (by omega)] at this
    go_enter Try.func24, Try.ntmps24
    go_wp2_with fail
    go_region_held3 (fun w' => Ex w w' ∧ True) ((refine ⟨?_, trivial⟩; first | exact (Ex.refl _).drew | exact (And.left ‹Ex _ _ ∧ _›) | exact Ex.trans (And.left ‹Ex _ _ ∧ _›) ‹Ex _ _›)) (first | (go_at_call 27; refine (I.out _ _ (by omega) (by omega) (And.left ‹Ex _ _ ∧ _›)).mono ?_; rintro e w1 ⟨rfl, hb1⟩))
    go_wp2_with fail
    go_ret
    exact ⟨ret_b (by rw [← HT2.out, List.take_length]), (And.left ‹Ex _ _ ∧ _›)⟩
  · have b5 : (p.length : Int) ≤ (c' : Int) := by omega
    have HT2 : Hid ((p.take p.length == q.take p.length) = meetL p q) := by have := HT.out; rwa [Nat.min_eq_left (by omega)] at this
    go_enter Try.func24, Try.ntmps24
    go_wp2_with fail
    go_region_held3 (fun w' => Ex w w' ∧ True) ((refine ⟨?_, trivial⟩; first | exact (Ex.refl _).drew | exact (And.left ‹Ex _ _ ∧ _›) | exact Ex.trans (And.left ‹Ex _ _ ∧ _›) ‹Ex _ _›)) (first | (go_at_call 27; refine (I.out _ _ (by omega) (by omega) (And.left ‹Ex _ _ ∧ _›)).mono ?_; rintro e w1 ⟨rfl, hb1⟩))
    go_wp2_with fail
    go_ret
    exact ⟨ret_b (by rw [← HT2.out, List.take_length]), (And.left ‹Ex _ _ ∧ _›)⟩

set_option maxHeartbeats 1000000 in
theorem placesMeet_any (s t : ByteArray) (p q : List Int) (a a' : Option Addr) (c c' : Nat) (w : World) (hP : PA w 0 p a) (hQ : PA w 0 q a') (hl : p.length ≤ 1000000000) (hl' : q.length ≤ 1000000000) (hc : p.length ≤ c) (hc' : q.length ≤ c') :
    Calls Try.prog 15 #[.agg #[.string s, .slice a p.length c], .agg #[.string t, .slice a' q.length c']] w fun e w' => e = .returned (.bool (meetB s t p q)) ∧ Ex w w' := by
  have N : Hid (Ex w ((w.alloc (.cells #[.string s, .slice a p.length c] 25)).alloc (.cells #[.string t, .slice a' q.length c'] 25))) := (Ex.new _ _).alloc _
  have PM : Hid (∀ w', Ex w w' → Calls Try.prog 24 #[.slice a p.length c, .slice a' q.length c'] w' fun e w'' => e = .returned (.bool (meetL p q)) ∧ Ex w' w'') := fun w' h => pathsMeet_any p q a a' c c' w' (PA_below hP h) (PA_below hQ h) hl hl' hc hc'
  have HM : Hid (meetB s t p q = ((s.toList == t.toList) && meetL p q)) := rfl
  clear hP hQ
  cases hn : s.toList == t.toList with
  | false =>
    have HR : Hid (meetB s t p q = false) := by show _ = _; rw [HM.out, hn]; rfl
    go_enter Try.func15, Try.ntmps15
    go_wp2_with fail
    go_ret
    exact ⟨ret_b HR.out.symm, N.out⟩
  | true =>
    have HR : Hid (meetB s t p q = meetL p q) := by show _ = _; rw [HM.out, hn]; rfl
    go_enter Try.func15, Try.ntmps15
    go_wp2_with fail
    refine Calls.mono (PM.out _ N.out) ?_
    rintro e w1 ⟨rfl, hb1⟩
    go_wp2_with fail
    go_ret
    exact ⟨ret_b HR.out.symm, N.out.trans hb1⟩

end Go.Proofs.Ytdlbfedepekkmaa
