/- Walks: names and places in form. -/
import Derived.Test.YtdlbfedepekkmaaE3

import Derived.Test.YtdlbfedepekkmaaW7

import Derived.Laws.Strings

namespace Go.Proofs.Ytdlbfedepekkmaa

open Go.RowKit Go.Deep

attribute [local go_sem ↓] Go.wp_at_zero Go.wp_at_succ

/-- A byte of a text. -/
def bt (s : ByteArray) (i : Nat) : Nat := (s.data.toList.getD i 0).toNat
theorem bt_at (s : ByteArray) (i : Nat) (h : i < s.size) : (s[i]'h).toNat = bt s i := by
  obtain ⟨⟨l⟩⟩ := s
  have hl : i < l.length := h
  show ((ByteArray.mk ⟨l⟩)[i]'hl).toNat = (l.getD i 0).toNat
  simp only [List.getD, List.getElem?_eq_getElem hl, Option.getD_some]
  rfl

def letter (n : Nat) : Bool := decide (97 ≤ n) && decide (n ≤ 122)
/-- A name is 1 to 6 letters. -/
def nameB (s : ByteArray) : Bool := decide (1 ≤ s.size) && decide (s.size ≤ 6) && (List.range s.size).all fun i => letter (bt s i)

theorem nameB_no {s : ByteArray} {i : Nat} (h : i < s.size) (hb : letter (bt s i) = false) : nameB s = false := by
  cases hn : nameB s with
  | false => rfl
  | true =>
    simp only [nameB, Bool.and_eq_true, List.all_eq_true, List.mem_range] at hn
    rw [hn.2 i h] at hb; cases hb
theorem nameB_yes {s : ByteArray} (h1 : 1 ≤ s.size) (h2 : s.size ≤ 6) (h : ∀ i, i < s.size → letter (bt s i) = true) : nameB s = true := by
  simp only [nameB, Bool.and_eq_true, List.all_eq_true, List.mem_range, decide_eq_true_eq]
  exact ⟨⟨h1, h2⟩, h⟩
theorem nameB_size {s : ByteArray} (h : s.size < 1 ∨ 6 < s.size) : nameB s = false := by
  simp only [nameB]
  rcases h with h | h
  · simp [show ¬ 1 ≤ s.size by omega]
  · simp [show ¬ s.size ≤ 6 by omega]
theorem letter_lo {n : Nat} (h : n < 97) : letter n = false := by simp [letter]; omega
theorem letter_hi {n : Nat} (h : 122 < n) : letter n = false := by simp [letter]; omega
theorem letter_in {n : Nat} (h : ¬ n < 97) (h' : ¬ 122 < n) : letter n = true := by simp [letter]; omega

theorem toList_len (s : ByteArray) : s.toList.length = s.size := by rw [Go.ByteArray.toList_eq]; rfl
theorem empty_of_size {s : ByteArray} (h : s.size = 0) : s.toList.isEmpty = true := by
  rw [List.isEmpty_iff, ← List.length_eq_zero_iff, toList_len]; exact h
theorem full_of_size {s : ByteArray} (h : s.size ≠ 0) : s.toList.isEmpty = false := by
  cases hx : s.toList.isEmpty with
  | false => rfl
  | true => rw [List.isEmpty_iff, ← List.length_eq_zero_iff, toList_len] at hx; exact absurd hx h

theorem up_to {P : Nat → Prop} {k : Nat} (h : ∀ j, j < k → P j) (hk : P k) : ∀ j, j < k + 1 → P j := fun j hj => by
  rcases Nat.lt_or_eq_of_le (Nat.le_of_lt_succ hj) with h1 | h1
  · exact h j h1
  · exact h1 ▸ hk

set_option maxHeartbeats 1000000 in
theorem l2Name_any (s : ByteArray) (w : World) : Calls Try.prog 25 #[.string s] w fun e w' => e = .returned (.bool (nameB s)) ∧ Ex w w' := by
  by_cases h1 : s.size < 1
  · have HR : Hid (nameB s = false) := nameB_size (Or.inl h1)
    have d1 : decide ((s.size : Int) < 1) = true := by simp; omega
    go_enter Try.func25, Try.ntmps25
    go_wp2_with fail
    go_ret
    exact ⟨ret_b HR.out.symm, Ex.refl _⟩
  by_cases h6 : 6 < s.size
  · have HR : Hid (nameB s = false) := nameB_size (Or.inr h6)
    have d1 : decide ((s.size : Int) < 1) = false := by simp; omega
    have d2 : decide ((6 : Int) < (s.size : Int)) = true := by simp; omega
    go_enter Try.func25, Try.ntmps25
    go_wp2_with fail
    go_ret
    exact ⟨ret_b HR.out.symm, Ex.refl _⟩
  have d1 : decide ((s.size : Int) < 1) = false := by simp; omega
  have d2 : decide ((6 : Int) < (s.size : Int)) = false := by simp; omega
  go_enter Try.func25, Try.ntmps25
  go_wp2_with fail
  go_loopw [3] (fun i wr => ∃ (k : Nat), k ≤ s.size ∧ i = .int .i64 k ∧ (∀ j, j < k → letter (bt s j) = true) ∧ Ex w wr) (fun i _ => s.size - (intOf i).toNat)
  case atStart => exact ⟨0, by omega, rfl, fun j hj => by omega, Ex.refl _⟩
  case round =>
    obtain ⟨k, hk, rfl, hall, hx⟩ := hrel
    have A : Hid (∀ j, j < k → letter (bt s j) = true) := hall
    have X : Hid (Ex w wr) := hx
    clear hall hx
    by_cases hlt : k < s.size
    · have hb := bt_at s k hlt
      by_cases hlo : bt s k < 97
      · have HR : Hid (nameB s = false) := nameB_no hlt (letter_lo hlo)
        have e1 : decide (((s[k]'hlt).toNat : Int) < 97) = true := by rw [hb]; simp; omega
        go_wp2_with fail
        go_ret
        exact ⟨ret_b HR.out.symm, X.out⟩
      have e1 : decide (((s[k]'hlt).toNat : Int) < 97) = false := by rw [hb]; simp; omega
      by_cases hhi : 122 < bt s k
      · have HR : Hid (nameB s = false) := nameB_no hlt (letter_hi hhi)
        have e2 : decide ((122 : Int) < ((s[k]'hlt).toNat : Int)) = true := by rw [hb]; simp; omega
        go_wp2_with fail
        go_ret
        exact ⟨ret_b HR.out.symm, X.out⟩
      have e2 : decide ((122 : Int) < ((s[k]'hlt).toNat : Int)) = false := by rw [hb]; simp; omega
      have HL : Hid (letter (bt s k) = true) := letter_in hlo hhi
      clear hlo hhi hb
      go_wp2_with fail
      go_roundw
      case rel => exact ⟨k + 1, by omega, by go_num, up_to A.out HL.out, X.out⟩
      case measure => simp [intOf]; omega
    · have HR : Hid (nameB s = true) := nameB_yes (by omega) (by omega) fun i hi => A.out i (by omega)
      go_wp2_with fail
      go_ret
      exact ⟨ret_b HR.out.symm, X.out⟩

set_option maxHeartbeats 1000000 in
theorem nameOk_any (s : ByteArray) (w : World) : Calls Try.prog 22 #[.string s] w fun e w' => e = .returned (.bool (nameB s)) ∧ Ex w w' := by
  by_cases h1 : s.size < 1
  · have HR : Hid (nameB s = false) := nameB_size (Or.inl h1)
    have d1 : s.toList.isEmpty = true := empty_of_size (by omega)
    go_enter Try.func22, Try.ntmps22
    go_wp2_with fail
    go_ret
    exact ⟨ret_b HR.out.symm, Ex.refl _⟩
  have d1 : s.toList.isEmpty = false := full_of_size (by omega)
  by_cases h6 : 6 < s.size
  · have HR : Hid (nameB s = false) := nameB_size (Or.inr h6)
    have d2 : decide ((6 : Int) < (s.size : Int)) = true := by simp; omega
    go_enter Try.func22, Try.ntmps22
    go_wp2_with fail
    go_ret
    exact ⟨ret_b HR.out.symm, Ex.refl _⟩
  have d2 : decide ((6 : Int) < (s.size : Int)) = false := by simp; omega
  go_enter Try.func22, Try.ntmps22
  go_wp2_with fail
  go_loopw [13] (fun i wr => ∃ (k : Nat), k ≤ s.size ∧ i = .int .i64 k ∧ (∀ j, j < k → letter (bt s j) = true) ∧ Ex w wr) (fun i _ => s.size - (intOf i).toNat)
  case atStart => exact ⟨0, by omega, rfl, fun j hj => by omega, Ex.refl _⟩
  case round =>
    obtain ⟨k, hk, rfl, hall, hx⟩ := hrel
    have A : Hid (∀ j, j < k → letter (bt s j) = true) := hall
    have X : Hid (Ex w wr) := hx
    clear hall hx
    by_cases hlt : k < s.size
    · have hb := bt_at s k hlt
      by_cases hlo : bt s k < 97
      · have HR : Hid (nameB s = false) := nameB_no hlt (letter_lo hlo)
        have e1 : decide (((s[k]'hlt).toNat : Int) < 97) = true := by rw [hb]; simp; omega
        go_wp2_with fail
        go_ret
        exact ⟨ret_b HR.out.symm, X.out⟩
      have e1 : decide (((s[k]'hlt).toNat : Int) < 97) = false := by rw [hb]; simp; omega
      by_cases hhi : 122 < bt s k
      · have HR : Hid (nameB s = false) := nameB_no hlt (letter_hi hhi)
        have e2 : decide ((122 : Int) < ((s[k]'hlt).toNat : Int)) = true := by rw [hb]; simp; omega
        go_wp2_with fail
        go_ret
        exact ⟨ret_b HR.out.symm, X.out⟩
      have e2 : decide ((122 : Int) < ((s[k]'hlt).toNat : Int)) = false := by rw [hb]; simp; omega
      have HL : Hid (letter (bt s k) = true) := letter_in hlo hhi
      clear hlo hhi hb
      go_wp2_with fail
      go_roundw
      case rel => exact ⟨k + 1, by omega, by go_num, up_to A.out HL.out, X.out⟩
      case measure => simp [intOf]; omega
    · have HR : Hid (nameB s = true) := nameB_yes (by omega) (by omega) fun i hi => A.out i (by omega)
      go_wp2_with fail
      go_ret
      exact ⟨ret_b HR.out.symm, X.out⟩

/-- A place in form. -/
def placeB (s : ByteArray) (p : List Int) : Bool := nameB s && decide (p.length ≤ 4) && p.all fun x => x == 0 || x == 1

theorem placeB_name {s : ByteArray} {p : List Int} (h : nameB s = false) : placeB s p = false := by simp [placeB, h]
theorem placeB_len {s : ByteArray} {p : List Int} (h : 4 < p.length) : placeB s p = false := by simp [placeB, show ¬ p.length ≤ 4 by omega]
theorem getD_mem {p : List Int} {i : Nat} (h : i < p.length) : p.getD i 0 ∈ p := by simp [List.getD, h]
theorem placeB_no {s : ByteArray} {p : List Int} {i : Nat} (h : i < p.length) (h0 : p.getD i 0 ≠ 0) (h1 : p.getD i 0 ≠ 1) : placeB s p = false := by
  cases hn : placeB s p with
  | false => rfl
  | true =>
    simp only [placeB, Bool.and_eq_true, List.all_eq_true] at hn
    have := hn.2 _ (getD_mem h)
    simp only [Bool.or_eq_true, beq_iff_eq] at this
    rcases this with h | h
    · exact absurd h h0
    · exact absurd h h1
theorem placeB_yes {s : ByteArray} {p : List Int} (h : nameB s = true) (h4 : p.length ≤ 4) (ha : ∀ i, i < p.length → p.getD i 0 = 0 ∨ p.getD i 0 = 1) : placeB s p = true := by
  simp only [placeB, Bool.and_eq_true, List.all_eq_true]
  refine ⟨⟨h, by simpa using h4⟩, fun x hx => ?_⟩
  obtain ⟨i, hi, rfl⟩ := List.getElem_of_mem hx
  have := ha i hi
  simpa [List.getD, hi] using this

set_option maxHeartbeats 1000000 in
theorem l2Place_any (s : ByteArray) (p : List Int) (a : Option Addr) (c : Nat) (w : World) (hP : PA w 0 p a) :
    Calls Try.prog 16 #[.agg #[.string s, .slice a p.length c]] w fun e w' => e = .returned (.bool (placeB s p)) ∧ Ex w w' := by
  have P : Hid (∀ w', Ex w w' → PA w' 0 p a) := fun _ h => PA_below hP h
  have C : Hid (∀ w', Ex (w.alloc (.cells #[.string s, .slice a p.length c] 25)) w' → w'.cell? ⟨w.heap.size, 1, none⟩ = some (.slice a p.length c)) := fun w' h => h.at (by simp)
  have N : Hid (Ex w (w.alloc (.cells #[.string s, .slice a p.length c] 25))) := Ex.new _ _
  clear hP
  cases hn : nameB s with
  | false =>
    have HR : Hid (placeB s p = false) := placeB_name hn
    go_enter Try.func16, Try.ntmps16
    go_wp2_with fail
    refine (l2Name_any s _).mono ?_
    rintro e w1 ⟨rfl, hb1⟩
    rw [hn]
    go_wp2_with fail
    go_ret
    exact ⟨ret_b HR.out.symm, N.out.trans hb1⟩
  | true =>
    have HN : Hid (nameB s = true) := hn
    by_cases h4 : 4 < p.length
    · have HR : Hid (placeB s p = false) := placeB_len h4
      have d4 : decide ((4 : Int) < (p.length : Int)) = true := by simp; omega
      go_enter Try.func16, Try.ntmps16
      go_wp2_with fail
      refine (l2Name_any s _).mono ?_
      rintro e w1 ⟨rfl, hb1⟩
      rw [hn]
      have c1 := C.out w1 hb1
      go_wp2_with fail
      go_ret
      exact ⟨ret_b HR.out.symm, N.out.trans hb1⟩
    have d4 : decide ((4 : Int) < (p.length : Int)) = false := by simp; omega
    go_enter Try.func16, Try.ntmps16
    go_wp2_with fail
    refine (l2Name_any s _).mono ?_
    rintro e w1 ⟨rfl, hb1⟩
    rw [hn]
    have c1 := C.out w1 hb1
    clear hn
    go_wp2_with fail
    go_loopw [3] (fun i wr => ∃ (k : Nat), k ≤ p.length ∧ i = .int .i64 k ∧ (∀ j, j < k → p.getD j 0 = 0 ∨ p.getD j 0 = 1) ∧ Ex (w.alloc (.cells #[.string s, .slice a p.length c] 25)) wr) (fun i _ => p.length - (intOf i).toNat)
    case atStart => exact ⟨0, by omega, rfl, fun j hj => by omega, hb1⟩
    case round =>
      obtain ⟨k, hk, rfl, hall, hx⟩ := hrel
      have A : Hid (∀ j, j < k → p.getD j 0 = 0 ∨ p.getD j 0 = 1) := hall
      have X : Hid (Ex (w.alloc (.cells #[.string s, .slice a p.length c] 25)) wr) := hx
      have c1 := C.out wr hx
      clear hall hx hb1
      by_cases hlt : k < p.length
      · obtain ⟨b, o, rfl, hbs, _, hc⟩ := PA_at (P.out wr (N.out.trans X.out)) (by omega)
        have ck := hc k hlt
        have HX : Hid (decide (0 ≤ p.getD k 0 ∧ p.getD k 0 ≤ 1) = true → p.getD k 0 = 0 ∨ p.getD k 0 = 1) := fun h => by simp only [decide_eq_true_eq] at h; omega
        have HY : Hid (decide (0 ≤ p.getD k 0 ∧ p.getD k 0 ≤ 1) = false → placeB s p = false) := fun h => by simp only [decide_eq_false_iff_not] at h; exact placeB_no hlt (by omega) (by omega)
        have HU : Hid (p.getD k 0 = 0 ∨ p.getD k 0 = 1 → ∀ j, j < k + 1 → p.getD j 0 = 0 ∨ p.getD j 0 = 1) := fun h => up_to A.out h
        clear hc
        obtain ⟨x, hx⟩ : ∃ x, p.getD k 0 = x := ⟨_, rfl⟩
        rw [hx] at ck HX HY HU
        clear hx
        go_wp2_with fail
        refine (l6In_any x 0 1 wr).mono ?_
        rintro e w2 ⟨rfl, hb2⟩
        cases hd : decide (0 ≤ x ∧ x ≤ 1) with
        | false =>
          have HR : Hid (placeB s p = false) := HY.out hd
          go_wp2_with fail
          go_ret
          exact ⟨ret_b HR.out.symm, N.out.trans (X.out.trans hb2)⟩
        | true =>
          have HA : Hid (x = 0 ∨ x = 1) := HX.out hd
          clear hd HX HY
          go_wp2_with fail
          go_roundw
          case rel => exact ⟨k + 1, by omega, by go_num, HU.out HA.out, X.out.trans hb2⟩
          case measure => simp [intOf]; omega
      · have HR : Hid (placeB s p = true) := placeB_yes HN.out (by omega) fun i hi => A.out i (by omega)
        go_wp2_with fail
        go_ret
        exact ⟨ret_b HR.out.symm, N.out.trans X.out⟩
end Go.Proofs.Ytdlbfedepekkmaa
