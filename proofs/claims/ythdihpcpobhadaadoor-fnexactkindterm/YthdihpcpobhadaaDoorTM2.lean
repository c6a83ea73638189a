/- Walks: names of functions without places, and lists of texts. -/
import Derived.Test.YthdihpcpobhadaaDoorTM1

import Derived.Test.YthdihpcpobhadaaDoorW7

import Derived.Laws.Strings

namespace Go.Proofs.YthdihpcpobhadaaDoor

open Go.RowKit Go.Deep

attribute [local go_sem ↓] Go.wp_at_zero Go.wp_at_succ

/-- A byte of a text. -/
def wbt (s : ByteArray) (i : Nat) : Nat := (s.data.toList.getD i 0).toNat
theorem wbt_at (s : ByteArray) (i : Nat) (h : i < s.size) : (s[i]'h).toNat = wbt s i := by
  obtain ⟨⟨l⟩⟩ := s
  have hl : i < l.length := h
  show ((ByteArray.mk ⟨l⟩)[i]'hl).toNat = (l.getD i 0).toNat
  simp only [List.getD, List.getElem?_eq_getElem hl, Option.getD_some]
  rfl

def wletter (n : Nat) : Bool := decide (97 ≤ n ∧ n ≤ 122 ∨ 65 ≤ n ∧ n ≤ 90 ∨ 48 ≤ n ∧ n ≤ 57 ∨ n = 95)
/-- 1 to 12 letters, figures and underscores. -/
def wordB (s : ByteArray) : Bool := decide (1 ≤ s.size) && decide (s.size ≤ 12) && (List.range s.size).all fun i => wletter (wbt s i)

theorem wordB_no {s : ByteArray} {i : Nat} (h : i < s.size) (hb : wletter (wbt s i) = false) : wordB s = false := by
  cases hn : wordB s with
  | false => rfl
  | true =>
    simp only [wordB, Bool.and_eq_true, List.all_eq_true, List.mem_range] at hn
    rw [hn.2 i h] at hb; cases hb
theorem wordB_yes {s : ByteArray} (h1 : 1 ≤ s.size) (h2 : s.size ≤ 12) (h : ∀ i, i < s.size → wletter (wbt s i) = true) : wordB s = true := by
  simp only [wordB, Bool.and_eq_true, List.all_eq_true, List.mem_range, decide_eq_true_eq]
  exact ⟨⟨h1, h2⟩, h⟩
theorem wordB_size {s : ByteArray} (h : s.size < 1 ∨ 12 < s.size) : wordB s = false := by
  simp only [wordB]
  rcases h with h | h
  · simp [show ¬ 1 ≤ s.size by omega]
  · simp [show ¬ s.size ≤ 12 by omega]

theorem upto_succ {P : Nat → Prop} {k : Nat} (h : ∀ j, j < k → P j) (hk : P k) : ∀ j, j < k + 1 → P j := fun j hj => by
  rcases Nat.lt_or_eq_of_le (Nat.le_of_lt_succ hj) with h1 | h1
  · exact h j h1
  · exact h1 ▸ hk

theorem byte_class (n : Nat) : n < 48 ∨ (48 ≤ n ∧ n ≤ 57) ∨ (58 ≤ n ∧ n ≤ 64) ∨ (65 ≤ n ∧ n ≤ 90) ∨ (91 ≤ n ∧ n ≤ 94) ∨ n = 95 ∨ n = 96 ∨ (97 ≤ n ∧ n ≤ 122) ∨ 123 ≤ n := by omega

set_option maxHeartbeats 2000000 in
theorem l12Word_any (s : ByteArray) (w : World) : Calls Tryd.prog 35 #[.string s] w fun e w' => e = .returned (.bool (wordB s)) ∧ Ex w w' := by
  by_cases h1 : s.size < 1
  · have HR : Hid (wordB s = false) := wordB_size (Or.inl h1)
    have d1 : decide ((s.size : Int) < 1) = true := by simp; omega
    go_enter Tryd.func35, Tryd.ntmps35
    go_wp2_with fail
    go_ret
    exact ⟨ret_b HR.out.symm, Ex.refl _⟩
  by_cases h6 : 12 < s.size
  · have HR : Hid (wordB s = false) := wordB_size (Or.inr h6)
    have d1 : decide ((s.size : Int) < 1) = false := by simp; omega
    have d2 : decide ((12 : Int) < (s.size : Int)) = true := by simp; omega
    go_enter Tryd.func35, Tryd.ntmps35
    go_wp2_with fail
    go_ret
    exact ⟨ret_b HR.out.symm, Ex.refl _⟩
  have d1 : decide ((s.size : Int) < 1) = false := by simp; omega
  have d2 : decide ((12 : Int) < (s.size : Int)) = false := by simp; omega
  go_enter Tryd.func35, Tryd.ntmps35
  go_wp2_with fail
  go_loopw [3] (fun i wr => ∃ (k : Nat), k ≤ s.size ∧ i = .int .i64 k ∧ (∀ j, j < k → wletter (wbt s j) = true) ∧ Ex w wr) (fun i _ => s.size - (intOf i).toNat)
  case atStart => exact ⟨0, by omega, rfl, fun j hj => by omega, Ex.refl _⟩
  case round =>
    obtain ⟨k, hk, rfl, hall, hx⟩ := hrel
    have A : Hid (∀ j, j < k → wletter (wbt s j) = true) := hall
    have X : Hid (Ex w wr) := hx
    clear hall hx
    by_cases hlt : k < s.size
    · have hb := wbt_at s k hlt
      have N : Hid (wletter (wbt s k) = false → wordB s = false) := wordB_no hlt
      have U : Hid (wletter (wbt s k) = true → ∀ j, j < k + 1 → wletter (wbt s j) = true) := fun h => upto_succ A.out h
      obtain ⟨n, hn⟩ : ∃ n, wbt s k = n := ⟨_, rfl⟩
      rw [hn] at hb N U
      clear hn
      rcases byte_class n with h | h | h | h | h | h | h | h | h
      · have w1 : decide (((s[k]'hlt).toNat : Int) < 97) = true := by rw [hb]; simp; omega
        have w2 : decide ((122 : Int) < ((s[k]'hlt).toNat : Int)) = false := by rw [hb]; simp; omega
        have w3 : decide (((s[k]'hlt).toNat : Int) < 65) = true := by rw [hb]; simp; omega
        have w4 : decide ((90 : Int) < ((s[k]'hlt).toNat : Int)) = false := by rw [hb]; simp; omega
        have w5 : decide (((s[k]'hlt).toNat : Int) < 48) = true := by rw [hb]; simp; omega
        have w6 : decide ((57 : Int) < ((s[k]'hlt).toNat : Int)) = false := by rw [hb]; simp; omega
        have w7 : (((s[k]'hlt).toNat : Int) != 95) = true := by rw [hb]; simp; omega
        have L : Hid (wletter n = false) := by show wletter n = _; simp [wletter]; omega
        clear hb h
        go_wp2_with fail
        go_ret
        exact ⟨ret_b (N.out L.out).symm, X.out⟩
      · have w1 : decide (((s[k]'hlt).toNat : Int) < 97) = true := by rw [hb]; simp; omega
        have w2 : decide ((122 : Int) < ((s[k]'hlt).toNat : Int)) = false := by rw [hb]; simp; omega
        have w3 : decide (((s[k]'hlt).toNat : Int) < 65) = true := by rw [hb]; simp; omega
        have w4 : decide ((90 : Int) < ((s[k]'hlt).toNat : Int)) = false := by rw [hb]; simp; omega
        have w5 : decide (((s[k]'hlt).toNat : Int) < 48) = false := by rw [hb]; simp; omega
        have w6 : decide ((57 : Int) < ((s[k]'hlt).toNat : Int)) = false := by rw [hb]; simp; omega
        have w7 : (((s[k]'hlt).toNat : Int) != 95) = true := by rw [hb]; simp; omega
        have L : Hid (wletter n = true) := by show wletter n = _; simp [wletter]; omega
        clear hb h
        go_wp2_with fail
        go_roundw
        case rel => exact ⟨k + 1, by omega, by go_num, U.out L.out, X.out⟩
        case measure => simp [intOf]; omega
      · have w1 : decide (((s[k]'hlt).toNat : Int) < 97) = true := by rw [hb]; simp; omega
        have w2 : decide ((122 : Int) < ((s[k]'hlt).toNat : Int)) = false := by rw [hb]; simp; omega
        have w3 : decide (((s[k]'hlt).toNat : Int) < 65) = true := by rw [hb]; simp; omega
        have w4 : decide ((90 : Int) < ((s[k]'hlt).toNat : Int)) = false := by rw [hb]; simp; omega
        have w5 : decide (((s[k]'hlt).toNat : Int) < 48) = false := by rw [hb]; simp; omega
        have w6 : decide ((57 : Int) < ((s[k]'hlt).toNat : Int)) = true := by rw [hb]; simp; omega
        have w7 : (((s[k]'hlt).toNat : Int) != 95) = true := by rw [hb]; simp; omega
        have L : Hid (wletter n = false) := by show wletter n = _; simp [wletter]; omega
        clear hb h
        go_wp2_with fail
        go_ret
        exact ⟨ret_b (N.out L.out).symm, X.out⟩
      · have w1 : decide (((s[k]'hlt).toNat : Int) < 97) = true := by rw [hb]; simp; omega
        have w2 : decide ((122 : Int) < ((s[k]'hlt).toNat : Int)) = false := by rw [hb]; simp; omega
        have w3 : decide (((s[k]'hlt).toNat : Int) < 65) = false := by rw [hb]; simp; omega
        have w4 : decide ((90 : Int) < ((s[k]'hlt).toNat : Int)) = false := by rw [hb]; simp; omega
        have w5 : decide (((s[k]'hlt).toNat : Int) < 48) = false := by rw [hb]; simp; omega
        have w6 : decide ((57 : Int) < ((s[k]'hlt).toNat : Int)) = true := by rw [hb]; simp; omega
        have w7 : (((s[k]'hlt).toNat : Int) != 95) = true := by rw [hb]; simp; omega
        have L : Hid (wletter n = true) := by show wletter n = _; simp [wletter]; omega
        clear hb h
        go_wp2_with fail
        go_roundw
        case rel => exact ⟨k + 1, by omega, by go_num, U.out L.out, X.out⟩
        case measure => simp [intOf]; omega
      · have w1 : decide (((s[k]'hlt).toNat : Int) < 97) = true := by rw [hb]; simp; omega
        have w2 : decide ((122 : Int) < ((s[k]'hlt).toNat : Int)) = false := by rw [hb]; simp; omega
        have w3 : decide (((s[k]'hlt).toNat : Int) < 65) = false := by rw [hb]; simp; omega
        have w4 : decide ((90 : Int) < ((s[k]'hlt).toNat : Int)) = true := by rw [hb]; simp; omega
        have w5 : decide (((s[k]'hlt).toNat : Int) < 48) = false := by rw [hb]; simp; omega
        have w6 : decide ((57 : Int) < ((s[k]'hlt).toNat : Int)) = true := by rw [hb]; simp; omega
        have w7 : (((s[k]'hlt).toNat : Int) != 95) = true := by rw [hb]; simp; omega
        have L : Hid (wletter n = false) := by show wletter n = _; simp [wletter]; omega
        clear hb h
        go_wp2_with fail
        go_ret
        exact ⟨ret_b (N.out L.out).symm, X.out⟩
      · have w1 : decide (((s[k]'hlt).toNat : Int) < 97) = true := by rw [hb]; simp; omega
        have w2 : decide ((122 : Int) < ((s[k]'hlt).toNat : Int)) = false := by rw [hb]; simp; omega
        have w3 : decide (((s[k]'hlt).toNat : Int) < 65) = false := by rw [hb]; simp; omega
        have w4 : decide ((90 : Int) < ((s[k]'hlt).toNat : Int)) = true := by rw [hb]; simp; omega
        have w5 : decide (((s[k]'hlt).toNat : Int) < 48) = false := by rw [hb]; simp; omega
        have w6 : decide ((57 : Int) < ((s[k]'hlt).toNat : Int)) = true := by rw [hb]; simp; omega
        have w7 : (((s[k]'hlt).toNat : Int) != 95) = false := by rw [hb]; simp; omega
        have L : Hid (wletter n = true) := by show wletter n = _; simp [wletter]; omega
        clear hb h
        go_wp2_with fail
        go_roundw
        case rel => exact ⟨k + 1, by omega, by go_num, U.out L.out, X.out⟩
        case measure => simp [intOf]; omega
      · have w1 : decide (((s[k]'hlt).toNat : Int) < 97) = true := by rw [hb]; simp; omega
        have w2 : decide ((122 : Int) < ((s[k]'hlt).toNat : Int)) = false := by rw [hb]; simp; omega
        have w3 : decide (((s[k]'hlt).toNat : Int) < 65) = false := by rw [hb]; simp; omega
        have w4 : decide ((90 : Int) < ((s[k]'hlt).toNat : Int)) = true := by rw [hb]; simp; omega
        have w5 : decide (((s[k]'hlt).toNat : Int) < 48) = false := by rw [hb]; simp; omega
        have w6 : decide ((57 : Int) < ((s[k]'hlt).toNat : Int)) = true := by rw [hb]; simp; omega
        have w7 : (((s[k]'hlt).toNat : Int) != 95) = true := by rw [hb]; simp; omega
        have L : Hid (wletter n = false) := by show wletter n = _; simp [wletter]; omega
        clear hb h
        go_wp2_with fail
        go_ret
        exact ⟨ret_b (N.out L.out).symm, X.out⟩
      · have w1 : decide (((s[k]'hlt).toNat : Int) < 97) = false := by rw [hb]; simp; omega
        have w2 : decide ((122 : Int) < ((s[k]'hlt).toNat : Int)) = false := by rw [hb]; simp; omega
        have w3 : decide (((s[k]'hlt).toNat : Int) < 65) = false := by rw [hb]; simp; omega
        have w4 : decide ((90 : Int) < ((s[k]'hlt).toNat : Int)) = true := by rw [hb]; simp; omega
        have w5 : decide (((s[k]'hlt).toNat : Int) < 48) = false := by rw [hb]; simp; omega
        have w6 : decide ((57 : Int) < ((s[k]'hlt).toNat : Int)) = true := by rw [hb]; simp; omega
        have w7 : (((s[k]'hlt).toNat : Int) != 95) = true := by rw [hb]; simp; omega
        have L : Hid (wletter n = true) := by show wletter n = _; simp [wletter]; omega
        clear hb h
        go_wp2_with fail
        go_roundw
        case rel => exact ⟨k + 1, by omega, by go_num, U.out L.out, X.out⟩
        case measure => simp [intOf]; omega
      · have w1 : decide (((s[k]'hlt).toNat : Int) < 97) = false := by rw [hb]; simp; omega
        have w2 : decide ((122 : Int) < ((s[k]'hlt).toNat : Int)) = true := by rw [hb]; simp; omega
        have w3 : decide (((s[k]'hlt).toNat : Int) < 65) = false := by rw [hb]; simp; omega
        have w4 : decide ((90 : Int) < ((s[k]'hlt).toNat : Int)) = true := by rw [hb]; simp; omega
        have w5 : decide (((s[k]'hlt).toNat : Int) < 48) = false := by rw [hb]; simp; omega
        have w6 : decide ((57 : Int) < ((s[k]'hlt).toNat : Int)) = true := by rw [hb]; simp; omega
        have w7 : (((s[k]'hlt).toNat : Int) != 95) = true := by rw [hb]; simp; omega
        have L : Hid (wletter n = false) := by show wletter n = _; simp [wletter]; omega
        clear hb h
        go_wp2_with fail
        go_ret
        exact ⟨ret_b (N.out L.out).symm, X.out⟩
    · have HR : Hid (wordB s = true) := wordB_yes (by omega) (by omega) fun i hi => A.out i (by omega)
      go_wp2_with fail
      go_ret
      exact ⟨ret_b HR.out.symm, X.out⟩

/-- Texts lie behind an address, in a block of S. -/
def XS (w : World) (S : Nat → Prop) (p : List ByteArray) (a : Option Addr) : Prop := p.length = 0 ∨ ∃ b o, a = some ⟨b, o, none⟩ ∧ S b ∧ ∀ i, i < p.length → w.cell? ⟨b, o + i, none⟩ = some (.string (p.getD i ⟨#[]⟩))

theorem XS_ks {w w' : World} {S : Nat → Prop} {p : List ByteArray} {a : Option Addr} (h : XS w S p a) (hk : Ks S w w') : XS w' S p a := by
  rcases h with h | ⟨b, o, e, hb, hc⟩
  · exact Or.inl h
  · exact Or.inr ⟨b, o, e, hb, fun i hi => by rw [hk.cell hb (World.block_lt_of_cell? _ _ (hc i hi))]; exact hc i hi⟩
theorem XS_mono {w : World} {S S' : Nat → Prop} {p : List ByteArray} {a : Option Addr} (h : XS w S p a) (hl : ∀ b, b < w.heap.size → S b → S' b) : XS w S' p a := by
  rcases h with h | ⟨b, o, e, hb, hc⟩
  · exact Or.inl h
  · by_cases h0 : p.length = 0
    · exact Or.inl h0
    · exact Or.inr ⟨b, o, e, hl b (World.block_lt_of_cell? _ _ (hc 0 (by omega))) hb, hc⟩
/-- .. all from block lo on. -/
def XA (w : World) (lo : Nat) (p : List ByteArray) (a : Option Addr) : Prop := XS w (fun b => lo ≤ b) p a
theorem XA_kp {w w' : World} {lo : Nat} {p : List ByteArray} {a : Option Addr} (h : XA w lo p a) (hk : Kp lo w w') : XA w' lo p a := XS_ks h hk.block
theorem XA_lo {w : World} {lo lo' : Nat} {p : List ByteArray} {a : Option Addr} (h : XA w lo p a) (hl : lo' ≤ lo) : XA w lo' p a := XS_mono h fun _ _ hb => Nat.le_trans hl hb
theorem XA_below {w w' : World} {lo : Nat} {p : List ByteArray} {a : Option Addr} (h : XA w lo p a) (hb : Ex w w') : XA w' lo p a := XA_kp h (Kp.of_below hb lo)
theorem XA_at {w : World} {lo : Nat} {p : List ByteArray} {a : Option Addr} (h : XA w lo p a) (h0 : 0 < p.length) : ∃ b o, a = some ⟨b, o, none⟩ ∧ b < w.heap.size ∧ lo ≤ b ∧ ∀ i, i < p.length → w.cell? ⟨b, o + i, none⟩ = some (.string (p.getD i ⟨#[]⟩)) := by
  rcases h with h | ⟨b, o, e, hb, hc⟩
  · omega
  · exact ⟨b, o, e, World.block_lt_of_cell? _ _ (hc 0 h0), hb, hc⟩

/-- The text is among the texts. -/
def hasB (p : List ByteArray) (s : ByteArray) : Bool := p.any fun t => t.toList == s.toList
theorem hasB_yes {p : List ByteArray} {s : ByteArray} {i : Nat} (h : i < p.length) (e : ((p.getD i ⟨#[]⟩).toList == s.toList) = true) : hasB p s = true := by
  simp only [hasB, List.any_eq_true]
  exact ⟨p.getD i ⟨#[]⟩, by simp [List.getD, h], e⟩
theorem hasB_no {p : List ByteArray} {s : ByteArray} (h : ∀ i, i < p.length → ((p.getD i ⟨#[]⟩).toList == s.toList) = false) : hasB p s = false := by
  simp only [hasB, List.any_eq_false]
  intro t ht
  obtain ⟨i, hi, rfl⟩ := List.getElem_of_mem ht
  have := h i hi
  simp only [List.getD, List.getElem?_eq_getElem hi, Option.getD_some] at this
  simp [this]

set_option maxHeartbeats 1000000 in
theorem l12Has_any (p : List ByteArray) (a : Option Addr) (c : Nat) (s : ByteArray) (w : World) (hl : p.length ≤ 1000000000) (hP : XA w 0 p a) :
    Calls Tryd.prog 36 #[.slice a p.length c, .string s] w fun e w' => e = .returned (.bool (hasB p s)) ∧ Ex w w' := by
  have P : Hid (∀ w', Ex w w' → XA w' 0 p a) := fun _ h => XA_below hP h
  clear hP
  go_enter Tryd.func36, Tryd.ntmps36
  go_wp2_with fail
  go_loopw [5] (fun i wr => ∃ (k : Nat), k ≤ p.length ∧ i = .int .i64 k ∧ (∀ j, j < k → ((p.getD j ⟨#[]⟩).toList == s.toList) = false) ∧ Ex w wr) (fun i _ => p.length - (intOf i).toNat)
  case atStart => exact ⟨0, by omega, rfl, fun j hj => by omega, Ex.refl _⟩
  case round =>
    obtain ⟨k, hk, rfl, hall, hx⟩ := hrel
    have A : Hid (∀ j, j < k → ((p.getD j ⟨#[]⟩).toList == s.toList) = false) := hall
    have X : Hid (Ex w wr) := hx
    clear hall hx
    by_cases hlt : k < p.length
    · obtain ⟨b, o, rfl, hbs, _, hc⟩ := XA_at (P.out wr X.out) (by omega)
      have ck := hc k hlt
      have Y : Hid (((p.getD k ⟨#[]⟩).toList == s.toList) = true → hasB p s = true) := hasB_yes hlt
      have U : Hid (((p.getD k ⟨#[]⟩).toList == s.toList) = false → ∀ j, j < k + 1 → ((p.getD j ⟨#[]⟩).toList == s.toList) = false) := fun h => upto_succ A.out h
      obtain ⟨t, ht⟩ : ∃ t, p.getD k ⟨#[]⟩ = t := ⟨_, rfl⟩
      rw [ht] at ck Y U
      clear hc ht
      cases he : t.toList == s.toList with
      | true =>
        have HR : Hid (hasB p s = true) := Y.out he
        go_wp2_with fail
        go_ret
        exact ⟨ret_b HR.out.symm, X.out⟩
      | false =>
        have HU : Hid _ := U.out he
        go_wp2_with fail
        go_roundw
        case rel => exact ⟨k + 1, by omega, by go_num, HU.out, X.out⟩
        case measure => simp [intOf]; omega
    · have HR : Hid (hasB p s = false) := hasB_no fun i hi => A.out i (by omega)
      go_wp2_with fail
      go_ret
      exact ⟨ret_b HR.out.symm, X.out⟩

end Go.Proofs.YthdihpcpobhadaaDoor
