/- Walks: places in form and places that meet. -/
import Derived.Test.YtdlbfedepekkmaaPL1

namespace Go.Proofs.Ytdlbfedepekkmaa

open Go.RowKit Go.Deep

attribute [local go_sem ↓] Go.wp_at_zero Go.wp_at_succ

/-- A path in form. -/
def pthB (p : List Int) : Bool := decide (p.length ≤ 4) && p.all fun x => x == 0 || x == 1
theorem placeB_path (s : ByteArray) (p : List Int) : placeB s p = (nameB s && pthB p) := by rw [placeB, pthB, Bool.and_assoc]
theorem pthB_len {p : List Int} (h : 4 < p.length) : pthB p = false := by simp [pthB, show ¬ p.length ≤ 4 by omega]
theorem pthB_no {p : List Int} {i : Nat} (h : i < p.length) (h0 : p.getD i 0 ≠ 0) (h1 : p.getD i 0 ≠ 1) : pthB p = false := by
  cases hn : pthB p with
  | false => rfl
  | true =>
    simp only [pthB, Bool.and_eq_true, List.all_eq_true] at hn
    have := hn.2 _ (getD_mem h)
    simp only [Bool.or_eq_true, beq_iff_eq] at this
    rcases this with h | h
    · exact absurd h h0
    · exact absurd h h1
theorem pthB_yes {p : List Int} (h4 : p.length ≤ 4) (ha : ∀ i, i < p.length → p.getD i 0 = 0 ∨ p.getD i 0 = 1) : pthB p = true := by
  simp only [pthB, Bool.and_eq_true, List.all_eq_true]
  refine ⟨by simpa using h4, fun x hx => ?_⟩
  obtain ⟨i, hi, rfl⟩ := List.getElem_of_mem hx
  have := ha i hi
  simpa [List.getD, hi] using this

set_option maxHeartbeats 1000000 in
theorem pthOk_any (p : List Int) (a : Option Addr) (c : Nat) (w : World) (hP : PA w 0 p a) : Calls Try.prog 23 #[.slice a p.length c] w fun e w' => e = .returned (.bool (pthB p)) ∧ Ex w w' := by
  have P : Hid (∀ w', Ex w w' → PA w' 0 p a) := fun _ h => PA_below hP h
  clear hP
  by_cases h4 : 4 < p.length
  · have HR : Hid (pthB p = false) := pthB_len h4
    have d1 : decide ((4 : Int) < (p.length : Int)) = true := decide_eq_true (by omega)
    go_enter Try.func23, Try.ntmps23
    go_wp2_with fail
    go_ret
    exact ⟨ret_b HR.out.symm, Ex.refl _⟩
  have d1 : decide ((4 : Int) < (p.length : Int)) = false := decide_eq_false (by omega)
  go_enter Try.func23, Try.ntmps23
  go_wp2_with fail
  go_loopw [4, 10] (fun _ i wr => ∃ (k : Nat), k ≤ p.length ∧ i = .int .i64 k ∧ (∀ j, j < k → p.getD j 0 = 0 ∨ p.getD j 0 = 1) ∧ Ex w wr) (fun _ i _ => p.length - (intOf i).toNat)
  case atStart => exact ⟨0, by omega, rfl, fun j hj => by omega, Ex.refl _⟩
  case round =>
    obtain ⟨k, hk, rfl, hall, hx⟩ := hrel
    have A : Hid (∀ j, j < k → p.getD j 0 = 0 ∨ p.getD j 0 = 1) := hall
    have X : Hid (Ex w wr) := hx
    clear hall hx
    by_cases hlt : k < p.length
    · obtain ⟨b, o, rfl, hbs, _, hc⟩ := PA_at (P.out wr X.out) (by omega)
      have ck := hc k hlt
      have HU : Hid (p.getD k 0 = 0 ∨ p.getD k 0 = 1 → ∀ j, j < k + 1 → p.getD j 0 = 0 ∨ p.getD j 0 = 1) := fun h => up_to A.out h
      have HY : Hid (p.getD k 0 ≠ 0 → p.getD k 0 ≠ 1 → pthB p = false) := pthB_no hlt
      clear hc
      obtain ⟨x, hx⟩ : ∃ x, p.getD k 0 = x := ⟨_, rfl⟩
      rw [hx] at ck HY HU
      clear hx
      by_cases h0 : x = 0
      · subst h0
        go_wp2_with fail
        go_roundw
        case rel => exact ⟨k + 1, by omega, by go_num, HU.out (Or.inl rfl), X.out⟩
        case measure => simp [intOf]; omega
      · by_cases h1 : x = 1
        · subst h1
          go_wp2_with fail
          go_roundw
          case rel => exact ⟨k + 1, by omega, by go_num, HU.out (Or.inr rfl), X.out⟩
          case measure => simp [intOf]; omega
        · have HR : Hid (pthB p = false) := HY.out h0 h1
          have e0 : (x != 0) = true := by simp [h0]
          have e1 : (x != 1) = true := by simp [h1]
          go_wp2_with fail
          go_ret
          exact ⟨ret_b HR.out.symm, X.out⟩
    · have HR : Hid (pthB p = true) := pthB_yes (by omega) fun i hi => A.out i (by omega)
      go_wp2_with fail
      go_ret
      exact ⟨ret_b HR.out.symm, X.out⟩

set_option maxHeartbeats 1000000 in
theorem placeOk_any (s : ByteArray) (p : List Int) (a : Option Addr) (c : Nat) (w : World) (hP : PA w 0 p a) :
    Calls Try.prog 14 #[.agg #[.string s, .slice a p.length c]] w fun e w' => e = .returned (.bool (placeB s p)) ∧ Ex w w' := by
  have P : Hid (∀ w', Ex w w' → PA w' 0 p a) := fun _ h => PA_below hP h
  have C : Hid (∀ w', Ex (w.alloc (.cells #[.string s, .slice a p.length c] 25)) w' → w'.cell? ⟨w.heap.size, 1, none⟩ = some (.slice a p.length c)) := fun w' h => h.at (by simp)
  have N : Hid (Ex w (w.alloc (.cells #[.string s, .slice a p.length c] 25))) := Ex.new _ _
  clear hP
  cases hn : nameB s with
  | false =>
    have HR : Hid (placeB s p = false) := placeB_name hn
    go_enter Try.func14, Try.ntmps14
    go_wp2_with fail
    refine (nameOk_any s _).mono ?_
    rintro e w1 ⟨rfl, hb1⟩
    rw [hn]
    go_wp2_with fail
    go_ret
    exact ⟨ret_b HR.out.symm, N.out.trans hb1⟩
  | true =>
    have HR : Hid (placeB s p = pthB p) := by show _ = _; rw [placeB_path, hn]; rfl
    go_enter Try.func14, Try.ntmps14
    go_wp2_with fail
    refine (nameOk_any s _).mono ?_
    rintro e w1 ⟨rfl, hb1⟩
    rw [hn]
    have c1 := C.out w1 hb1
    clear hn
    go_wp2_with fail
    refine (pthOk_any p a c _ (P.out _ (N.out.trans hb1))).mono ?_
    rintro e w2 ⟨rfl, hb2⟩
    go_wp2_with fail
    go_ret
    exact ⟨ret_b HR.out.symm, N.out.trans (hb1.trans hb2)⟩

/-- Two paths, one of which begins with the other. -/
def meetL : List Int → List Int → Bool
  | [], _ => true
  | _, [] => true
  | x :: p, y :: q => x == y && meetL p q

theorem meetL_no : ∀ {p q : List Int} {i : Nat}, i < p.length → i < q.length → p.getD i 0 ≠ q.getD i 0 → meetL p q = false
  | [], q, i, h, _, _ => by simp at h
  | x :: p, [], i, _, h, _ => by simp at h
  | x :: p, y :: q, 0, _, _, h => by
    have : (x == y) = false := by simpa using h
    simp [meetL, this]
  | x :: p, y :: q, i + 1, h1, h2, h => by
    simp only [meetL, meetL_no (p := p) (q := q) (i := i) (by simpa using h1) (by simpa using h2) (by simpa using h), Bool.and_false]
theorem meetL_yes : ∀ {p q : List Int}, (∀ i, i < p.length → i < q.length → p.getD i 0 = q.getD i 0) → meetL p q = true
  | [], q, _ => by simp [meetL]
  | x :: p, [], _ => by simp [meetL]
  | x :: p, y :: q, h => by
    have h0 : x = y := by simpa using h 0 (by simp) (by simp)
    simp only [meetL, h0, beq_self_eq_true, Bool.true_and]
    exact meetL_yes fun i h1 h2 => by simpa using h (i + 1) (by simpa using h1) (by simpa using h2)

/-- Two places meet. -/
def meetB (s t : ByteArray) (p q : List Int) : Bool := (s.toList == t.toList) && meetL p q

set_option maxHeartbeats 1000000 in
theorem l3Meet_any (s t : ByteArray) (p q : List Int) (a a' : Option Addr) (c c' : Nat) (w : World) (hP : PA w 0 p a) (hQ : PA w 0 q a') (hl : p.length ≤ 1000000000) (hl' : q.length ≤ 1000000000) :
    Calls Try.prog 17 #[.agg #[.string s, .slice a p.length c], .agg #[.string t, .slice a' q.length c']] w fun e w' => e = .returned (.bool (meetB s t p q)) ∧ Ex w w' := by
  have P : Hid (∀ w', Ex w w' → PA w' 0 p a) := fun _ h => PA_below hP h
  have Q : Hid (∀ w', Ex w w' → PA w' 0 q a') := fun _ h => PA_below hQ h
  have N : Hid (Ex w ((w.alloc (.cells #[.string s, .slice a p.length c] 25)).alloc (.cells #[.string t, .slice a' q.length c'] 25))) := (Ex.new _ _).alloc _
  have C : Hid (∀ w', Ex ((w.alloc (.cells #[.string s, .slice a p.length c] 25)).alloc (.cells #[.string t, .slice a' q.length c'] 25)) w' → w'.cell? ⟨w.heap.size, 1, none⟩ = some (.slice a p.length c) ∧ w'.cell? ⟨w.heap.size + 1, 1, none⟩ = some (.slice a' q.length c')) := fun w' h => ⟨h.at (by simp), h.at (by simp)⟩
  clear hP hQ
  cases hn : s.toList == t.toList with
  | false =>
    have HR : Hid (meetB s t p q = false) := by show _ = _; rw [meetB, hn]; rfl
    go_enter Try.func17, Try.ntmps17
    go_wp2_with fail
    go_ret
    exact ⟨ret_b HR.out.symm, N.out⟩
  | true =>
    have HM : Hid (meetB s t p q = meetL p q) := by show _ = _; rw [meetB, hn]; rfl
    go_enter Try.func17, Try.ntmps17
    go_wp2_with fail
    go_loopw [5] (fun i wr => ∃ (k : Nat), k ≤ p.length ∧ k ≤ q.length ∧ i = .int .i64 k ∧ (∀ j, j < k → p.getD j 0 = q.getD j 0) ∧ Ex ((w.alloc (.cells #[.string s, .slice a p.length c] 25)).alloc (.cells #[.string t, .slice a' q.length c'] 25)) wr) (fun i _ => p.length - (intOf i).toNat)
    case atStart => exact ⟨0, by omega, by omega, rfl, fun j hj => by omega, Ex.refl _⟩
    case round =>
      obtain ⟨k, hk, hk', rfl, hall, hx⟩ := hrel
      have A : Hid (∀ j, j < k → p.getD j 0 = q.getD j 0) := hall
      have X : Hid (Ex ((w.alloc (.cells #[.string s, .slice a p.length c] 25)).alloc (.cells #[.string t, .slice a' q.length c'] 25)) wr) := hx
      obtain ⟨c1, c2⟩ := C.out wr hx
      clear hall hx
      by_cases hlt : k < p.length
      · by_cases hlt' : k < q.length
        · obtain ⟨b, o, rfl, hbs, _, hc⟩ := PA_at (P.out wr (N.out.trans X.out)) (by omega)
          obtain ⟨b', o', rfl, hbs', _, hc'⟩ := PA_at (Q.out wr (N.out.trans X.out)) (by omega)
          have ck := hc k hlt
          have ck' := hc' k hlt'
          have HU : Hid (p.getD k 0 = q.getD k 0 → ∀ j, j < k + 1 → p.getD j 0 = q.getD j 0) := fun h => up_to A.out h
          have HY : Hid (p.getD k 0 ≠ q.getD k 0 → meetL p q = false) := meetL_no hlt hlt'
          clear hc hc'
          obtain ⟨x, hx⟩ : ∃ x, p.getD k 0 = x := ⟨_, rfl⟩
          obtain ⟨y, hy⟩ : ∃ y, q.getD k 0 = y := ⟨_, rfl⟩
          rw [hx] at ck HY HU
          rw [hy] at ck' HY HU
          clear hx hy
          by_cases h0 : x = y
          · subst h0
            go_wp2_with fail
            go_region
            go_wp2_with fail
            go_roundw
            case rel => exact ⟨k + 1, by omega, by omega, by go_num, by first | exact HU.out rfl | exact HU.out trivial, by first | exact X.out.drew | exact X.out.drewN _⟩
            case measure => simp [intOf]; omega
          · have HR : Hid (meetL p q = false) := HY.out h0
            have e0 : (x != y) = true := by simp [h0]
            go_wp2_with fail
            go_region
            go_wp2_with fail
            go_ret
            exact ⟨ret_b (HM.out.trans HR.out).symm, N.out.trans (by first | exact X.out.drew | exact X.out.drewN _)⟩
        · have HR : Hid (meetL p q = true) := meetL_yes fun i hi hi' => A.out i (by omega)
          go_wp2_with fail
          go_ret
          exact ⟨ret_b (HM.out.trans HR.out).symm, N.out.trans X.out⟩
      · have HR : Hid (meetL p q = true) := meetL_yes fun i hi hi' => A.out i (by omega)
        go_wp2_with fail
        go_ret
        exact ⟨ret_b (HM.out.trans HR.out).symm, N.out.trans X.out⟩
end Go.Proofs.Ytdlbfedepekkmaa
