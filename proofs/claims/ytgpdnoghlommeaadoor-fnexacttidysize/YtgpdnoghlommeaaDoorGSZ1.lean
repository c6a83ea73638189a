/- Walks: names of functions without places, and lists of texts. Bindings, bodies and functions without places as they lie in memory. Walks: texts and terms counted by the exact laws. -/
import Derived.Test.YtgpdnoghlommeaaDoorGW7
import Derived.Laws.Strings
namespace Go.Proofs.YtgpdnoghlommeaaDoor

open Go.RowKit Go.Deep

attribute [local go_sem ↓] Go.wp_at_zero Go.wp_at_succ

/-- A byte of a text. -/
def wbt (s : ByteArray) (i : Nat) : Nat := (s.data.toList.getD i 0).toNat
theorem wbt_at (s : ByteArray) (i : Nat) (h : i < s.size) : (s[i]'h).toNat = wbt s i := by
  obtain ⟨⟨l⟩⟩ := s
  have hl : i < l.length := h
  show ((ByteArray.mk ⟨l⟩)[i]'hl).toNat = (l.getD i 0).toNat
  simp only [List.getD, List.getElem?_eq_getElem hl, Option.getD_some]
  rfl

def wletter (n : Nat) : Bool := decide (97 ≤ n ∧ n ≤ 122 ∨ 65 ≤ n ∧ n ≤ 90 ∨ 48 ≤ n ∧ n ≤ 57 ∨ n = 95)
/-- 1 to 12 letters, figures and underscores. -/
def wordB (s : ByteArray) : Bool := decide (1 ≤ s.size) && decide (s.size ≤ 12) && (List.range s.size).all fun i => wletter (wbt s i)

theorem wordB_no {s : ByteArray} {i : Nat} (h : i < s.size) (hb : wletter (wbt s i) = false) : wordB s = false := by
  cases hn : wordB s with
  | false => rfl
  | true =>
    simp only [wordB, Bool.and_eq_true, List.all_eq_true, List.mem_range] at hn
    rw [hn.2 i h] at hb; cases hb
theorem wordB_yes {s : ByteArray} (h1 : 1 ≤ s.size) (h2 : s.size ≤ 12) (h : ∀ i, i < s.size → wletter (wbt s i) = true) : wordB s = true := by
  simp only [wordB, Bool.and_eq_true, List.all_eq_true, List.mem_range, decide_eq_true_eq]
  exact ⟨⟨h1, h2⟩, h⟩
theorem wordB_size {s : ByteArray} (h : s.size < 1 ∨ 12 < s.size) : wordB s = false := by
  simp only [wordB]
  rcases h with h | h
  · simp [show ¬ 1 ≤ s.size by omega]
  · simp [show ¬ s.size ≤ 12 by omega]

theorem upto_succ {P : Nat → Prop} {k : Nat} (h : ∀ j, j < k → P j) (hk : P k) : ∀ j, j < k + 1 → P j := fun j hj => by
  rcases Nat.lt_or_eq_of_le (Nat.le_of_lt_succ hj) with h1 | h1
  · exact h j h1
  · exact h1 ▸ hk

theorem byte_class (n : Nat) : n < 48 ∨ (48 ≤ n ∧ n ≤ 57) ∨ (58 ≤ n ∧ n ≤ 64) ∨ (65 ≤ n ∧ n ≤ 90) ∨ (91 ≤ n ∧ n ≤ 94) ∨ n = 95 ∨ n = 96 ∨ (97 ≤ n ∧ n ≤ 122) ∨ 123 ≤ n := by omega

set_option maxHeartbeats 2000000 in
theorem l12Word_any (s : ByteArray) (w : World) : Calls Tryd.prog 19 #[.string s] w fun e w' => e = .returned (.bool (wordB s)) ∧ Ex w w' := by
  by_cases h1 : s.size < 1
  · have HR : Hid (wordB s = false) := wordB_size (Or.inl h1)
    have d1 : decide ((s.size : Int) < 1) = true := by simp; omega
    go_enter Tryd.func19, Tryd.ntmps19
    go_wp2_with fail
    go_ret
    exact ⟨ret_b HR.out.symm, Ex.refl _⟩
  by_cases h6 : 12 < s.size
  · have HR : Hid (wordB s = false) := wordB_size (Or.inr h6)
    have d1 : decide ((s.size : Int) < 1) = false := by simp; omega
    have d2 : decide ((12 : Int) < (s.size : Int)) = true := by simp; omega
    go_enter Tryd.func19, Tryd.ntmps19
    go_wp2_with fail
    go_ret
    exact ⟨ret_b HR.out.symm, Ex.refl _⟩
  have d1 : decide ((s.size : Int) < 1) = false := by simp; omega
  have d2 : decide ((12 : Int) < (s.size : Int)) = false := by simp; omega
  go_enter Tryd.func19, Tryd.ntmps19
  go_wp2_with fail
  go_loopw [3] (fun i wr => ∃ (k : Nat), k ≤ s.size ∧ i = .int .i64 k ∧ (∀ j, j < k → wletter (wbt s j) = true) ∧ Ex w wr) (fun i _ => s.size - (intOf i).toNat)
  case atStart => exact ⟨0, by omega, rfl, fun j hj => by omega, Ex.refl _⟩
  case round =>
    obtain ⟨k, hk, rfl, hall, hx⟩ := hrel
    have A : Hid (∀ j, j < k → wletter (wbt s j) = true) := hall
    have X : Hid (Ex w wr) := hx
    clear hall hx
    by_cases hlt : k < s.size
    · have hb := wbt_at s k hlt
      have N : Hid (wletter (wbt s k) = false → wordB s = false) := wordB_no hlt
      have U : Hid (wletter (wbt s k) = true → ∀ j, j < k + 1 → wletter (wbt s j) = true) := fun h => upto_succ A.out h
      obtain ⟨n, hn⟩ : ∃ n, wbt s k = n := ⟨_, rfl⟩
      rw [hn] at hb N U
      clear hn
      rcases byte_class n with h | h | h | h | h | h | h | h | h
      · have w1 : decide (((s[k]'hlt).toNat : Int) < 97) = true := by rw [hb]; simp; omega
        have w2 : decide ((122 : Int) < ((s[k]'hlt).toNat : Int)) = false := by rw [hb]; simp; omega
        have w3 : decide (((s[k]'hlt).toNat : Int) < 65) = true := by rw [hb]; simp; omega
        have w4 : decide ((90 : Int) < ((s[k]'hlt).toNat : Int)) = false := by rw [hb]; simp; omega
        have w5 : decide (((s[k]'hlt).toNat : Int) < 48) = true := by rw [hb]; simp; omega
        have w6 : decide ((57 : Int) < ((s[k]'hlt).toNat : Int)) = false := by rw [hb]; simp; omega
        have w7 : (((s[k]'hlt).toNat : Int) != 95) = true := by rw [hb]; simp; omega
        have L : Hid (wletter n = false) := by show wletter n = _; simp [wletter]; omega
        clear hb h
        go_wp2_with fail
        go_ret
        exact ⟨ret_b (N.out L.out).symm, X.out⟩
      · have w1 : decide (((s[k]'hlt).toNat : Int) < 97) = true := by rw [hb]; simp; omega
        have w2 : decide ((122 : Int) < ((s[k]'hlt).toNat : Int)) = false := by rw [hb]; simp; omega
        have w3 : decide (((s[k]'hlt).toNat : Int) < 65) = true := by rw [hb]; simp; omega
        have w4 : decide ((90 : Int) < ((s[k]'hlt).toNat : Int)) = false := by rw [hb]; simp; omega
        have w5 : decide (((s[k]'hlt).toNat : Int) < 48) = false := by rw [hb]; simp; omega
        have w6 : decide ((57 : Int) < ((s[k]'hlt).toNat : Int)) = false := by rw [hb]; simp; omega
        have w7 : (((s[k]'hlt).toNat : Int) != 95) = true := by rw [hb]; simp; omega
        have L : Hid (wletter n = true) := by show wletter n = _; simp [wletter]; omega
        clear hb h
        go_wp2_with fail
        go_roundw
        case rel => exact ⟨k + 1, by omega, by go_num, U.out L.out, X.out⟩
        case measure => simp [intOf]; omega
      · have w1 : decide (((s[k]'hlt).toNat : Int) < 97) = true := by rw [hb]; simp; omega
        have w2 : decide ((122 : Int) < ((s[k]'hlt).toNat : Int)) = false := by rw [hb]; simp; omega
        have w3 : decide (((s[k]'hlt).toNat : Int) < 65) = true := by rw [hb]; simp; omega
        have w4 : decide ((90 : Int) < ((s[k]'hlt).toNat : Int)) = false := by rw [hb]; simp; omega
        have w5 : decide (((s[k]'hlt).toNat : Int) < 48) = false := by rw [hb]; simp; omega
        have w6 : decide ((57 : Int) < ((s[k]'hlt).toNat : Int)) = true := by rw [hb]; simp; omega
        have w7 : (((s[k]'hlt).toNat : Int) != 95) = true := by rw [hb]; simp; omega
        have L : Hid (wletter n = false) := by show wletter n = _; simp [wletter]; omega
        clear hb h
        go_wp2_with fail
        go_ret
        exact ⟨ret_b (N.out L.out).symm, X.out⟩
      · have w1 : decide (((s[k]'hlt).toNat : Int) < 97) = true := by rw [hb]; simp; omega
        have w2 : decide ((122 : Int) < ((s[k]'hlt).toNat : Int)) = false := by rw [hb]; simp; omega
        have w3 : decide (((s[k]'hlt).toNat : Int) < 65) = false := by rw [hb]; simp; omega
        have w4 : decide ((90 : Int) < ((s[k]'hlt).toNat : Int)) = false := by rw [hb]; simp; omega
        have w5 : decide (((s[k]'hlt).toNat : Int) < 48) = false := by rw [hb]; simp; omega
        have w6 : decide ((57 : Int) < ((s[k]'hlt).toNat : Int)) = true := by rw [hb]; simp; omega
        have w7 : (((s[k]'hlt).toNat : Int) != 95) = true := by rw [hb]; simp; omega
        have L : Hid (wletter n = true) := by show wletter n = _; simp [wletter]; omega
        clear hb h
        go_wp2_with fail
        go_roundw
        case rel => exact ⟨k + 1, by omega, by go_num, U.out L.out, X.out⟩
        case measure => simp [intOf]; omega
      · have w1 : decide (((s[k]'hlt).toNat : Int) < 97) = true := by rw [hb]; simp; omega
        have w2 : decide ((122 : Int) < ((s[k]'hlt).toNat : Int)) = false := by rw [hb]; simp; omega
        have w3 : decide (((s[k]'hlt).toNat : Int) < 65) = false := by rw [hb]; simp; omega
        have w4 : decide ((90 : Int) < ((s[k]'hlt).toNat : Int)) = true := by rw [hb]; simp; omega
        have w5 : decide (((s[k]'hlt).toNat : Int) < 48) = false := by rw [hb]; simp; omega
        have w6 : decide ((57 : Int) < ((s[k]'hlt).toNat : Int)) = true := by rw [hb]; simp; omega
        have w7 : (((s[k]'hlt).toNat : Int) != 95) = true := by rw [hb]; simp; omega
        have L : Hid (wletter n = false) := by show wletter n = _; simp [wletter]; omega
        clear hb h
        go_wp2_with fail
        go_ret
        exact ⟨ret_b (N.out L.out).symm, X.out⟩
      · have w1 : decide (((s[k]'hlt).toNat : Int) < 97) = true := by rw [hb]; simp; omega
        have w2 : decide ((122 : Int) < ((s[k]'hlt).toNat : Int)) = false := by rw [hb]; simp; omega
        have w3 : decide (((s[k]'hlt).toNat : Int) < 65) = false := by rw [hb]; simp; omega
        have w4 : decide ((90 : Int) < ((s[k]'hlt).toNat : Int)) = true := by rw [hb]; simp; omega
        have w5 : decide (((s[k]'hlt).toNat : Int) < 48) = false := by rw [hb]; simp; omega
        have w6 : decide ((57 : Int) < ((s[k]'hlt).toNat : Int)) = true := by rw [hb]; simp; omega
        have w7 : (((s[k]'hlt).toNat : Int) != 95) = false := by rw [hb]; simp; omega
        have L : Hid (wletter n = true) := by show wletter n = _; simp [wletter]; omega
        clear hb h
        go_wp2_with fail
        go_roundw
        case rel => exact ⟨k + 1, by omega, by go_num, U.out L.out, X.out⟩
        case measure => simp [intOf]; omega
      · have w1 : decide (((s[k]'hlt).toNat : Int) < 97) = true := by rw [hb]; simp; omega
        have w2 : decide ((122 : Int) < ((s[k]'hlt).toNat : Int)) = false := by rw [hb]; simp; omega
        have w3 : decide (((s[k]'hlt).toNat : Int) < 65) = false := by rw [hb]; simp; omega
        have w4 : decide ((90 : Int) < ((s[k]'hlt).toNat : Int)) = true := by rw [hb]; simp; omega
        have w5 : decide (((s[k]'hlt).toNat : Int) < 48) = false := by rw [hb]; simp; omega
        have w6 : decide ((57 : Int) < ((s[k]'hlt).toNat : Int)) = true := by rw [hb]; simp; omega
        have w7 : (((s[k]'hlt).toNat : Int) != 95) = true := by rw [hb]; simp; omega
        have L : Hid (wletter n = false) := by show wletter n = _; simp [wletter]; omega
        clear hb h
        go_wp2_with fail
        go_ret
        exact ⟨ret_b (N.out L.out).symm, X.out⟩
      · have w1 : decide (((s[k]'hlt).toNat : Int) < 97) = false := by rw [hb]; simp; omega
        have w2 : decide ((122 : Int) < ((s[k]'hlt).toNat : Int)) = false := by rw [hb]; simp; omega
        have w3 : decide (((s[k]'hlt).toNat : Int) < 65) = false := by rw [hb]; simp; omega
        have w4 : decide ((90 : Int) < ((s[k]'hlt).toNat : Int)) = true := by rw [hb]; simp; omega
        have w5 : decide (((s[k]'hlt).toNat : Int) < 48) = false := by rw [hb]; simp; omega
        have w6 : decide ((57 : Int) < ((s[k]'hlt).toNat : Int)) = true := by rw [hb]; simp; omega
        have w7 : (((s[k]'hlt).toNat : Int) != 95) = true := by rw [hb]; simp; omega
        have L : Hid (wletter n = true) := by show wletter n = _; simp [wletter]; omega
        clear hb h
        go_wp2_with fail
        go_roundw
        case rel => exact ⟨k + 1, by omega, by go_num, U.out L.out, X.out⟩
        case measure => simp [intOf]; omega
      · have w1 : decide (((s[k]'hlt).toNat : Int) < 97) = false := by rw [hb]; simp; omega
        have w2 : decide ((122 : Int) < ((s[k]'hlt).toNat : Int)) = true := by rw [hb]; simp; omega
        have w3 : decide (((s[k]'hlt).toNat : Int) < 65) = false := by rw [hb]; simp; omega
        have w4 : decide ((90 : Int) < ((s[k]'hlt).toNat : Int)) = true := by rw [hb]; simp; omega
        have w5 : decide (((s[k]'hlt).toNat : Int) < 48) = false := by rw [hb]; simp; omega
        have w6 : decide ((57 : Int) < ((s[k]'hlt).toNat : Int)) = true := by rw [hb]; simp; omega
        have w7 : (((s[k]'hlt).toNat : Int) != 95) = true := by rw [hb]; simp; omega
        have L : Hid (wletter n = false) := by show wletter n = _; simp [wletter]; omega
        clear hb h
        go_wp2_with fail
        go_ret
        exact ⟨ret_b (N.out L.out).symm, X.out⟩
    · have HR : Hid (wordB s = true) := wordB_yes (by omega) (by omega) fun i hi => A.out i (by omega)
      go_wp2_with fail
      go_ret
      exact ⟨ret_b HR.out.symm, X.out⟩

/-- Texts lie behind an address, in a block of S. -/
def XS (w : World) (S : Nat → Prop) (p : List ByteArray) (a : Option Addr) : Prop := p.length = 0 ∨ ∃ b o, a = some ⟨b, o, none⟩ ∧ S b ∧ ∀ i, i < p.length → w.cell? ⟨b, o + i, none⟩ = some (.string (p.getD i ⟨#[]⟩))

theorem XS_ks {w w' : World} {S : Nat → Prop} {p : List ByteArray} {a : Option Addr} (h : XS w S p a) (hk : Ks S w w') : XS w' S p a := by
  rcases h with h | ⟨b, o, e, hb, hc⟩
  · exact Or.inl h
  · exact Or.inr ⟨b, o, e, hb, fun i hi => by rw [hk.cell hb (World.block_lt_of_cell? _ _ (hc i hi))]; exact hc i hi⟩
theorem XS_mono {w : World} {S S' : Nat → Prop} {p : List ByteArray} {a : Option Addr} (h : XS w S p a) (hl : ∀ b, b < w.heap.size → S b → S' b) : XS w S' p a := by
  rcases h with h | ⟨b, o, e, hb, hc⟩
  · exact Or.inl h
  · by_cases h0 : p.length = 0
    · exact Or.inl h0
    · exact Or.inr ⟨b, o, e, hl b (World.block_lt_of_cell? _ _ (hc 0 (by omega))) hb, hc⟩
/-- .. all from block lo on. -/
def XA (w : World) (lo : Nat) (p : List ByteArray) (a : Option Addr) : Prop := XS w (fun b => lo ≤ b) p a
theorem XA_kp {w w' : World} {lo : Nat} {p : List ByteArray} {a : Option Addr} (h : XA w lo p a) (hk : Kp lo w w') : XA w' lo p a := XS_ks h hk.block
theorem XA_lo {w : World} {lo lo' : Nat} {p : List ByteArray} {a : Option Addr} (h : XA w lo p a) (hl : lo' ≤ lo) : XA w lo' p a := XS_mono h fun _ _ hb => Nat.le_trans hl hb
theorem XA_below {w w' : World} {lo : Nat} {p : List ByteArray} {a : Option Addr} (h : XA w lo p a) (hb : Ex w w') : XA w' lo p a := XA_kp h (Kp.of_below hb lo)
theorem XA_at {w : World} {lo : Nat} {p : List ByteArray} {a : Option Addr} (h : XA w lo p a) (h0 : 0 < p.length) : ∃ b o, a = some ⟨b, o, none⟩ ∧ b < w.heap.size ∧ lo ≤ b ∧ ∀ i, i < p.length → w.cell? ⟨b, o + i, none⟩ = some (.string (p.getD i ⟨#[]⟩)) := by
  rcases h with h | ⟨b, o, e, hb, hc⟩
  · omega
  · exact ⟨b, o, e, World.block_lt_of_cell? _ _ (hc 0 h0), hb, hc⟩

/-- The text is among the texts. -/
def hasB (p : List ByteArray) (s : ByteArray) : Bool := p.any fun t => t.toList == s.toList
theorem hasB_yes {p : List ByteArray} {s : ByteArray} {i : Nat} (h : i < p.length) (e : ((p.getD i ⟨#[]⟩).toList == s.toList) = true) : hasB p s = true := by
  simp only [hasB, List.any_eq_true]
  exact ⟨p.getD i ⟨#[]⟩, by simp [List.getD, h], e⟩
theorem hasB_no {p : List ByteArray} {s : ByteArray} (h : ∀ i, i < p.length → ((p.getD i ⟨#[]⟩).toList == s.toList) = false) : hasB p s = false := by
  simp only [hasB, List.any_eq_false]
  intro t ht
  obtain ⟨i, hi, rfl⟩ := List.getElem_of_mem ht
  have := h i hi
  simp only [List.getD, List.getElem?_eq_getElem hi, Option.getD_some] at this
  simp [this]

set_option maxHeartbeats 1000000 in
theorem l12Has_any (p : List ByteArray) (a : Option Addr) (c : Nat) (s : ByteArray) (w : World) (hl : p.length ≤ 1000000000) (hP : XA w 0 p a) :
    Calls Tryd.prog 21 #[.slice a p.length c, .string s] w fun e w' => e = .returned (.bool (hasB p s)) ∧ Ex w w' := by
  have P : Hid (∀ w', Ex w w' → XA w' 0 p a) := fun _ h => XA_below hP h
  clear hP
  go_enter Tryd.func21, Tryd.ntmps21
  go_wp2_with fail
  go_loopw [5] (fun i wr => ∃ (k : Nat), k ≤ p.length ∧ i = .int .i64 k ∧ (∀ j, j < k → ((p.getD j ⟨#[]⟩).toList == s.toList) = false) ∧ Ex w wr) (fun i _ => p.length - (intOf i).toNat)
  case atStart => exact ⟨0, by omega, rfl, fun j hj => by omega, Ex.refl _⟩
  case round =>
    obtain ⟨k, hk, rfl, hall, hx⟩ := hrel
    have A : Hid (∀ j, j < k → ((p.getD j ⟨#[]⟩).toList == s.toList) = false) := hall
    have X : Hid (Ex w wr) := hx
    clear hall hx
    by_cases hlt : k < p.length
    · obtain ⟨b, o, rfl, hbs, _, hc⟩ := XA_at (P.out wr X.out) (by omega)
      have ck := hc k hlt
      have Y : Hid (((p.getD k ⟨#[]⟩).toList == s.toList) = true → hasB p s = true) := hasB_yes hlt
      have U : Hid (((p.getD k ⟨#[]⟩).toList == s.toList) = false → ∀ j, j < k + 1 → ((p.getD j ⟨#[]⟩).toList == s.toList) = false) := fun h => upto_succ A.out h
      obtain ⟨t, ht⟩ : ∃ t, p.getD k ⟨#[]⟩ = t := ⟨_, rfl⟩
      rw [ht] at ck Y U
      clear hc ht
      cases he : t.toList == s.toList with
      | true =>
        have HR : Hid (hasB p s = true) := Y.out he
        go_wp2_with fail
        go_ret
        exact ⟨ret_b HR.out.symm, X.out⟩
      | false =>
        have HU : Hid _ := U.out he
        go_wp2_with fail
        go_roundw
        case rel => exact ⟨k + 1, by omega, by go_num, HU.out, X.out⟩
        case measure => simp [intOf]; omega
    · have HR : Hid (hasB p s = false) := hasB_no fun i hi => A.out i (by omega)
      go_wp2_with fail
      go_ret
      exact ⟨ret_b HR.out.symm, X.out⟩

end Go.Proofs.YtgpdnoghlommeaaDoor

namespace Go.Proofs.YtgpdnoghlommeaaDoor

open Go.RowKit Go.Deep

/-- A list of bindings: each a kind, names, a function's name, terms, and two bodies (bindings, and terms that are said). -/
abbrev BD := BT (Int × List ByteArray × ByteArray × TM × TM × TM)

def blen : BD → Nat
  | .nil => 0
  | .node _ _ _ _ .nil => 0
  | .node _ _ (_, _, _, _, _, _) _ (.node _ _ _ _ r) => blen r + 1
def bkind : BD → Nat → Int
  | .nil, _ => 0
  | .node _ _ _ _ .nil, _ => 0
  | .node _ _ (k, _, _, _, _, _) _ (.node _ _ _ _ _), 0 => k
  | .node _ _ (_, _, _, _, _, _) _ (.node _ _ _ _ r), i + 1 => bkind r i
def bnames : BD → Nat → List ByteArray
  | .nil, _ => []
  | .node _ _ _ _ .nil, _ => []
  | .node _ _ (_, ns, _, _, _, _) _ (.node _ _ _ _ _), 0 => ns
  | .node _ _ (_, _, _, _, _, _) _ (.node _ _ _ _ r), i + 1 => bnames r i
def bfn : BD → Nat → ByteArray
  | .nil, _ => ⟨#[]⟩
  | .node _ _ _ _ .nil, _ => ⟨#[]⟩
  | .node _ _ (_, _, fn, _, _, _) _ (.node _ _ _ _ _), 0 => fn
  | .node _ _ (_, _, _, _, _, _) _ (.node _ _ _ _ r), i + 1 => bfn r i
def bterms : BD → Nat → TM
  | .nil, _ => .nil
  | .node _ _ _ _ .nil, _ => .nil
  | .node _ _ (_, _, _, ts, _, _) _ (.node _ _ _ _ _), 0 => ts
  | .node _ _ (_, _, _, _, _, _) _ (.node _ _ _ _ r), i + 1 => bterms r i
def bthen : BD → Nat → BD
  | .nil, _ => .nil
  | .node _ _ _ _ .nil, _ => .nil
  | .node _ _ (_, _, _, _, _, _) tb (.node _ _ _ _ _), 0 => tb
  | .node _ _ (_, _, _, _, _, _) _ (.node _ _ _ _ r), i + 1 => bthen r i
def btsay : BD → Nat → TM
  | .nil, _ => .nil
  | .node _ _ _ _ .nil, _ => .nil
  | .node _ _ (_, _, _, _, tz, _) _ (.node _ _ _ _ _), 0 => tz
  | .node _ _ (_, _, _, _, _, _) _ (.node _ _ _ _ r), i + 1 => btsay r i
def belse : BD → Nat → BD
  | .nil, _ => .nil
  | .node _ _ _ _ .nil, _ => .nil
  | .node _ _ (_, _, _, _, _, _) _ (.node _ _ _ eb _), 0 => eb
  | .node _ _ (_, _, _, _, _, _) _ (.node _ _ _ _ r), i + 1 => belse r i
def besay : BD → Nat → TM
  | .nil, _ => .nil
  | .node _ _ _ _ .nil, _ => .nil
  | .node _ _ (_, _, _, _, _, ez) _ (.node _ _ _ _ _), 0 => ez
  | .node _ _ (_, _, _, _, _, _) _ (.node _ _ _ _ r), i + 1 => besay r i
def bdep : BD → Nat
  | .nil => 0
  | .node _ _ _ _ .nil => 0
  | .node _ _ (_, _, _, _, _, _) tb (.node _ _ _ eb r) => max (max (bdep tb + 1) (bdep eb + 1)) (bdep r)

theorem bdep_kid : ∀ (f : BD) (i : Nat), i < blen f → bdep (bthen f i) < bdep f ∧ bdep (belse f i) < bdep f
  | .nil, _, h => by simp [blen] at h
  | .node _ _ _ _ .nil, _, h => by simp [blen] at h
  | .node _ _ (_, _, _, _, _, _) tb (.node _ _ _ eb r), 0, _ => by simp only [bthen, belse, bdep]; omega
  | .node _ _ (_, _, _, _, _, _) tb (.node _ _ _ eb r), i + 1, h => by
    have := bdep_kid r i (by simp only [blen] at h; omega)
    simp only [bthen, belse, bdep]; omega

/-- A list of bindings lies at block b from place o on: eight cells each, all behind them in blocks of S. -/
def BC (w : World) (S : Nat → Prop) : BD → Nat → Nat → Prop
  | .nil, _, _ => True
  | .node _ _ _ _ .nil, _, _ => True
  | .node _ _ (k, ns, fn, ts, tz, ez) tb (.node _ _ _ eb r), b, o => (w.cell? ⟨b, o, none⟩ = some (.int .i64 k) ∧ (∃ a c, w.cell? ⟨b, o + 1, none⟩ = some (.slice a ns.length c) ∧ ns.length ≤ c ∧ XS w S ns a) ∧ w.cell? ⟨b, o + 2, none⟩ = some (.string fn) ∧ (∃ a c, w.cell? ⟨b, o + 3, none⟩ = some (.slice a (tlen ts) c) ∧ MS w S ts a) ∧
      (∃ a c, w.cell? ⟨b, o + 4, none⟩ = some (.slice a (blen tb) c) ∧ (blen tb = 0 ∨ ∃ b' o', a = some ⟨b', o', none⟩ ∧ S b' ∧ BC w S tb b' o')) ∧ (∃ a c, w.cell? ⟨b, o + 5, none⟩ = some (.slice a (tlen tz) c) ∧ MS w S tz a) ∧
      (∃ a c, w.cell? ⟨b, o + 6, none⟩ = some (.slice a (blen eb) c) ∧ (blen eb = 0 ∨ ∃ b' o', a = some ⟨b', o', none⟩ ∧ S b' ∧ BC w S eb b' o')) ∧ (∃ a c, w.cell? ⟨b, o + 7, none⟩ = some (.slice a (tlen ez) c) ∧ MS w S ez a)) ∧ BC w S r b (o + 8)

/-- A list of bindings lies behind a slice's address. -/
def BS (w : World) (S : Nat → Prop) (f : BD) (a : Option Addr) : Prop := blen f = 0 ∨ ∃ b o, a = some ⟨b, o, none⟩ ∧ S b ∧ BC w S f b o

/-- The eight cells of a binding. -/
def BT8 (w : World) (S : Nat → Prop) (f : BD) (i b o : Nat) : Prop :=
  w.cell? ⟨b, o, none⟩ = some (.int .i64 (bkind f i)) ∧ (∃ a c, w.cell? ⟨b, o + 1, none⟩ = some (.slice a (bnames f i).length c) ∧ (bnames f i).length ≤ c ∧ XS w S (bnames f i) a) ∧ w.cell? ⟨b, o + 2, none⟩ = some (.string (bfn f i)) ∧ (∃ a c, w.cell? ⟨b, o + 3, none⟩ = some (.slice a (tlen (bterms f i)) c) ∧ MS w S (bterms f i) a) ∧
    (∃ a c, w.cell? ⟨b, o + 4, none⟩ = some (.slice a (blen (bthen f i)) c) ∧ BS w S (bthen f i) a) ∧ (∃ a c, w.cell? ⟨b, o + 5, none⟩ = some (.slice a (tlen (btsay f i)) c) ∧ MS w S (btsay f i) a) ∧
    (∃ a c, w.cell? ⟨b, o + 6, none⟩ = some (.slice a (blen (belse f i)) c) ∧ BS w S (belse f i) a) ∧ (∃ a c, w.cell? ⟨b, o + 7, none⟩ = some (.slice a (tlen (besay f i)) c) ∧ MS w S (besay f i) a)

theorem BC_cell {w : World} {S : Nat → Prop} : ∀ {f : BD} {b o : Nat}, BC w S f b o → ∀ i, i < blen f → BT8 w S f i b (o + i * 8)
  | .nil, _, _, _, i, h => by simp [blen] at h
  | .node _ _ _ _ .nil, _, _, _, i, h => by simp [blen] at h
  | .node _ _ (_, _, _, _, _, _) _ (.node _ _ _ _ r), b, o, hc, 0, _ => hc.1
  | .node _ _ (_, _, _, _, _, _) _ (.node _ _ _ _ r), b, o, hc, i + 1, h => by
    have := BC_cell hc.2 i (by simp only [blen] at h; omega)
    rw [show o + 8 + i * 8 = o + (i + 1) * 8 by omega] at this
    exact this

theorem BC_mk {w : World} {S : Nat → Prop} : ∀ {f : BD} {b o : Nat}, (∀ i, i < blen f → BT8 w S f i b (o + i * 8)) → BC w S f b o
  | .nil, _, _, _ => trivial
  | .node _ _ _ _ .nil, _, _, _ => trivial
  | .node _ _ (_, _, _, _, _, _) _ (.node _ _ _ _ r), b, o, h => by
    refine ⟨h 0 (by simp [blen]), BC_mk fun i hi => ?_⟩
    have := h (i + 1) (by simp only [blen]; omega)
    rw [show o + (i + 1) * 8 = o + 8 + i * 8 by omega] at this
    exact this

theorem BC_ks {w w' : World} {S : Nat → Prop} (hk : Ks S w w') : ∀ {f : BD} {b o : Nat}, S b → BC w S f b o → BC w' S f b o
  | .nil, _, _, _, _ => trivial
  | .node _ _ _ _ .nil, _, _, _, _ => trivial
  | .node _ _ (_, _, _, _, _, _) _ (.node _ _ _ _ r), b, o, hb, ⟨⟨h0, ⟨a1, c1, h1, x1⟩, h2, ⟨a3, c3, h3, x3⟩, ⟨a4, c4, h4, x4⟩, ⟨a5, c5, h5, x5⟩, ⟨a6, c6, h6, x6⟩, ⟨a7, c7, h7, x7⟩⟩, hr⟩ => by
    have K : ∀ {i : Nat} {v : Value}, w.cell? ⟨b, i, none⟩ = some v → w'.cell? ⟨b, i, none⟩ = some v := fun h => by rw [hk.cell hb (World.block_lt_of_cell? _ _ h)]; exact h
    refine ⟨⟨K h0, ⟨a1, c1, K h1, x1.1, XS_ks x1.2 hk⟩, K h2, ⟨a3, c3, K h3, MS_ks x3 hk⟩, ⟨a4, c4, K h4, ?_⟩, ⟨a5, c5, K h5, MS_ks x5 hk⟩, ⟨a6, c6, K h6, ?_⟩, ⟨a7, c7, K h7, MS_ks x7 hk⟩⟩, BC_ks hk hb hr⟩
    · rcases x4 with h | ⟨b', o', e, hb', ht⟩
      · exact Or.inl h
      · exact Or.inr ⟨b', o', e, hb', BC_ks hk hb' ht⟩
    · rcases x6 with h | ⟨b', o', e, hb', ht⟩
      · exact Or.inl h
      · exact Or.inr ⟨b', o', e, hb', BC_ks hk hb' ht⟩

theorem BS_ks {w w' : World} {S : Nat → Prop} {f : BD} {a : Option Addr} (h : BS w S f a) (hk : Ks S w w') : BS w' S f a := by
  rcases h with h | ⟨b, o, e, hb, ht⟩
  · exact Or.inl h
  · exact Or.inr ⟨b, o, e, hb, BC_ks hk hb ht⟩

theorem BC_mono {w : World} {S S' : Nat → Prop} (hl : ∀ b, b < w.heap.size → S b → S' b) : ∀ {f : BD} {b o : Nat}, BC w S f b o → BC w S' f b o
  | .nil, _, _, _ => trivial
  | .node _ _ _ _ .nil, _, _, _ => trivial
  | .node _ _ (_, _, _, _, _, _) tb (.node _ _ _ eb r), b, o, ⟨⟨h0, ⟨a1, c1, h1, x1⟩, h2, ⟨a3, c3, h3, x3⟩, ⟨a4, c4, h4, x4⟩, ⟨a5, c5, h5, x5⟩, ⟨a6, c6, h6, x6⟩, ⟨a7, c7, h7, x7⟩⟩, hr⟩ => by
    refine ⟨⟨h0, ⟨a1, c1, h1, x1.1, XS_mono x1.2 hl⟩, h2, ⟨a3, c3, h3, MS_mono x3 hl⟩, ⟨a4, c4, h4, ?_⟩, ⟨a5, c5, h5, MS_mono x5 hl⟩, ⟨a6, c6, h6, ?_⟩, ⟨a7, c7, h7, MS_mono x7 hl⟩⟩, BC_mono hl hr⟩
    · rcases x4 with h | ⟨b', o', e, hb', ht⟩
      · exact Or.inl h
      · by_cases h0 : blen tb = 0
        · exact Or.inl h0
        · exact Or.inr ⟨b', o', e, hl b' (World.block_lt_of_cell? _ _ (BC_cell ht 0 (by omega)).1) hb', BC_mono hl ht⟩
    · rcases x6 with h | ⟨b', o', e, hb', ht⟩
      · exact Or.inl h
      · by_cases h0 : blen eb = 0
        · exact Or.inl h0
        · exact Or.inr ⟨b', o', e, hl b' (World.block_lt_of_cell? _ _ (BC_cell ht 0 (by omega)).1) hb', BC_mono hl ht⟩

theorem BS_mono {w : World} {S S' : Nat → Prop} {f : BD} {a : Option Addr} (h : BS w S f a) (hl : ∀ b, b < w.heap.size → S b → S' b) : BS w S' f a := by
  rcases h with h | ⟨b, o, e, hb, ht⟩
  · exact Or.inl h
  · by_cases h0 : blen f = 0
    · exact Or.inl h0
    · exact Or.inr ⟨b, o, e, hl b (World.block_lt_of_cell? _ _ (BC_cell ht 0 (by omega)).1) hb, BC_mono hl ht⟩

theorem BS_mk {w : World} {S : Nat → Prop} {f : BD} {g o : Nat} (hg : S g) (h : ∀ i, i < blen f → BT8 w S f i g (o + i * 8)) : BS w S f (some ⟨g, o, none⟩) :=
  Or.inr ⟨g, o, rfl, hg, BC_mk h⟩

/-- .. all from block lo on. -/
def BA (w : World) (lo : Nat) (f : BD) (a : Option Addr) : Prop := BS w (fun b => lo ≤ b) f a
theorem BA_kp {w w' : World} {lo : Nat} {f : BD} {a : Option Addr} (h : BA w lo f a) (hk : Kp lo w w') : BA w' lo f a := BS_ks h hk.block
theorem BA_lo {w : World} {lo lo' : Nat} {f : BD} {a : Option Addr} (h : BA w lo f a) (hl : lo' ≤ lo) : BA w lo' f a := BS_mono h fun _ _ hb => Nat.le_trans hl hb
theorem BA_below {w w' : World} {lo : Nat} {f : BD} {a : Option Addr} (h : BA w lo f a) (hb : Ex w w') : BA w' lo f a := BA_kp h (Kp.of_below hb lo)
theorem BA_at {w : World} {lo : Nat} {f : BD} {a : Option Addr} (h : BA w lo f a) (h0 : 0 < blen f) : ∃ b o, a = some ⟨b, o, none⟩ ∧ lo ≤ b ∧ b < w.heap.size ∧ ∀ i, i < blen f → BT8 w (fun b => lo ≤ b) f i b (o + i * 8) := by
  rcases h with h | ⟨b, o, e, hb, ht⟩
  · omega
  · exact ⟨b, o, e, hb, World.block_lt_of_cell? _ _ (BC_cell ht 0 h0).1, fun i hi => BC_cell ht i hi⟩

/-- A function without places. -/
structure PM where
  name : ByteArray
  params : List ByteArray
  binds : BD
  says : TM
/-- None. -/
def pm0 : PM := ⟨⟨#[]⟩, [], .nil, .nil⟩

/-- The four cells of a function. -/
def PT (w : World) (S : Nat → Prop) (f : PM) (b o : Nat) : Prop :=
  w.cell? ⟨b, o, none⟩ = some (.string f.name) ∧ (∃ a c, w.cell? ⟨b, o + 1, none⟩ = some (.slice a f.params.length c) ∧ f.params.length ≤ c ∧ XS w S f.params a) ∧ (∃ a c, w.cell? ⟨b, o + 2, none⟩ = some (.slice a (blen f.binds) c) ∧ BS w S f.binds a) ∧ (∃ a c, w.cell? ⟨b, o + 3, none⟩ = some (.slice a (tlen f.says) c) ∧ MS w S f.says a)

/-- Functions lie behind an address. -/
def QS (w : World) (S : Nat → Prop) (l : List PM) (a : Option Addr) : Prop := l.length = 0 ∨ ∃ b o, a = some ⟨b, o, none⟩ ∧ S b ∧ ∀ i, i < l.length → PT w S (l.getD i pm0) b (o + i * 4)
theorem PT_ks {w w' : World} {S : Nat → Prop} (hk : Ks S w w') {f : PM} {b o : Nat} (hb : S b) (h : PT w S f b o) : PT w' S f b o := by
  obtain ⟨h0, ⟨a1, c1, h1, x1⟩, ⟨a2, c2, h2, x2⟩, ⟨a3, c3, h3, x3⟩⟩ := h
  have K : ∀ {i : Nat} {v : Value}, w.cell? ⟨b, i, none⟩ = some v → w'.cell? ⟨b, i, none⟩ = some v := fun h => by rw [hk.cell hb (World.block_lt_of_cell? _ _ h)]; exact h
  exact ⟨K h0, ⟨a1, c1, K h1, x1.1, XS_ks x1.2 hk⟩, ⟨a2, c2, K h2, BS_ks x2 hk⟩, ⟨a3, c3, K h3, MS_ks x3 hk⟩⟩
theorem PT_mono {w : World} {S S' : Nat → Prop} (hl : ∀ b, b < w.heap.size → S b → S' b) {f : PM} {b o : Nat} (h : PT w S f b o) : PT w S' f b o := by
  obtain ⟨h0, ⟨a1, c1, h1, x1⟩, ⟨a2, c2, h2, x2⟩, ⟨a3, c3, h3, x3⟩⟩ := h
  exact ⟨h0, ⟨a1, c1, h1, x1.1, XS_mono x1.2 hl⟩, ⟨a2, c2, h2, BS_mono x2 hl⟩, ⟨a3, c3, h3, MS_mono x3 hl⟩⟩
theorem QS_ks {w w' : World} {S : Nat → Prop} {l : List PM} {a : Option Addr} (h : QS w S l a) (hk : Ks S w w') : QS w' S l a := by
  rcases h with h | ⟨b, o, e, hb, ht⟩
  · exact Or.inl h
  · exact Or.inr ⟨b, o, e, hb, fun i hi => PT_ks hk hb (ht i hi)⟩
theorem QS_mono {w : World} {S S' : Nat → Prop} {l : List PM} {a : Option Addr} (h : QS w S l a) (hl : ∀ b, b < w.heap.size → S b → S' b) : QS w S' l a := by
  rcases h with h | ⟨b, o, e, hb, ht⟩
  · exact Or.inl h
  · by_cases h0 : l.length = 0
    · exact Or.inl h0
    · exact Or.inr ⟨b, o, e, hl b (World.block_lt_of_cell? _ _ (ht 0 (by omega)).1) hb, fun i hi => PT_mono hl (ht i hi)⟩
def QA (w : World) (lo : Nat) (l : List PM) (a : Option Addr) : Prop := QS w (fun b => lo ≤ b) l a
theorem QA_kp {w w' : World} {lo : Nat} {f : List PM} {a : Option Addr} (h : QA w lo f a) (hk : Kp lo w w') : QA w' lo f a := QS_ks h hk.block
theorem QA_lo {w : World} {lo lo' : Nat} {f : List PM} {a : Option Addr} (h : QA w lo f a) (hl : lo' ≤ lo) : QA w lo' f a := QS_mono h fun _ _ hb => Nat.le_trans hl hb
theorem QA_below {w w' : World} {lo : Nat} {f : List PM} {a : Option Addr} (h : QA w lo f a) (hb : Ex w w') : QA w' lo f a := QA_kp h (Kp.of_below hb lo)
theorem QA_at {w : World} {lo : Nat} {l : List PM} {a : Option Addr} (h : QA w lo l a) (h0 : 0 < l.length) : ∃ b o, a = some ⟨b, o, none⟩ ∧ lo ≤ b ∧ b < w.heap.size ∧ ∀ i, i < l.length → PT w (fun b => lo ≤ b) (l.getD i pm0) b (o + i * 4) := by
  rcases h with h | ⟨b, o, e, hb, ht⟩
  · omega
  · exact ⟨b, o, e, hb, World.block_lt_of_cell? _ _ (ht 0 h0).1, ht⟩

end Go.Proofs.YtgpdnoghlommeaaDoor

namespace Go.Proofs.YtgpdnoghlommeaaDoor

open Go.RowKit Go.Deep

attribute [local go_sem ↓] Go.wp_at_zero Go.wp_at_succ

/-- What a count answers: what is left, or -1; and what it tells, if something is left: so much has been counted, at least. -/
def SzP (n : Nat) (S : Prop) (l : Int) (w : World) (e : Ending) (w' : World) : Prop := ∃ x : Int, e = .returned (.int .i64 x) ∧ -1 ≤ x ∧ x ≤ l ∧ (0 ≤ x → S ∧ x + n ≤ l) ∧ Ex w w'

/-- The sum of so many. -/
def sumN (g : Nat → Nat) : Nat → Nat
  | 0 => 0
  | k + 1 => sumN g k + g k
theorem sumN_shift (g : Nat → Nat) : ∀ n, sumN g (n + 1) = g 0 + sumN (fun i => g (i + 1)) n
  | 0 => by simp [sumN]
  | n + 1 => by rw [sumN, sumN_shift g n, sumN]; omega
theorem sumN_eq {g g' : Nat → Nat} : ∀ n, (∀ i, i < n → g i = g' i) → sumN g n = sumN g' n
  | 0, _ => rfl
  | n + 1, h => by rw [sumN, sumN, sumN_eq n fun i hi => h i (by omega), h n (by omega)]

/-- How much texts count. -/
def xW (p : List ByteArray) : Nat := p.length + sumN (fun i => (p.getD i ⟨#[]⟩).size) p.length
/-- How much terms count. -/
def tW : TM → Nat
  | .nil => 0
  | .node _ _ (_, _, s, p) k r => 1 + (s.size + p.length + tW k) + tW r
def tWk (f : TM) (j : Nat) : Nat := (tname f j).size + (tpath f j).length + tW (tkid f j)
theorem tW_sum : ∀ f : TM, tW f = tlen f + sumN (tWk f) (tlen f)
  | .nil => rfl
  | .node a b (k, n, s, p) f r => by
    have h : sumN (fun i => tWk (.node a b (k, n, s, p) f r) (i + 1)) (tlen r) = sumN (tWk r) (tlen r) := sumN_eq _ fun i _ => rfl
    rw [tlen, sumN_shift, h, tW, tW_sum r]
    show _ = _ + ((s.size + p.length + tW f) + _)
    omega

set_option maxHeartbeats 1000000 in
theorem szInts_any (n c : Nat) (a : Option Addr) (l : Int) (w : World) (hn : n ≤ 9223372036854775807) (h0 : 0 ≤ l) (h1 : l ≤ 1048576) :
    Calls Tryd.prog 51 #[.slice a n c, .int .i64 l] w (SzP n (n ≤ 1048576) l w) := by
  by_cases hb : l - n < 0
  · go_enter Tryd.func51, Tryd.ntmps51
    go_wp2_with fail
    go_ret
    exact ⟨-1, rfl, by omega, by omega, by omega, Ex.refl _⟩
  · go_enter Tryd.func51, Tryd.ntmps51
    go_wp2_with fail
    go_ret
    exact ⟨l - n, rfl, by omega, by omega, fun _ => ⟨by omega, by omega⟩, Ex.refl _⟩

/-- All texts are of a length that is one. -/
def XLm (p : List ByteArray) : Prop := ∀ i, i < p.length → (p.getD i ⟨#[]⟩).size ≤ 9223372036854775807

set_option maxHeartbeats 1000000 in
theorem szTexts_any (p : List ByteArray) (a : Option Addr) (c : Nat) (l : Int) (w : World) (hlen : p.length ≤ 9223372036854775807) (hs : XLm p) (h0 : 0 ≤ l) (h1 : l ≤ 1048576) (hT : XA w 0 p a) :
    Calls Tryd.prog 16 #[.slice a p.length c, .int .i64 l] w (SzP (xW p) (p.length ≤ 1048576) l w) := by
  have T : Hid (∀ w', Ex w w' → XA w' 0 p a) := fun _ h => XA_below hT h
  have S : Hid (XLm p) := hs
  clear hT hs
  by_cases hneg : l - p.length < 0
  · go_enter Tryd.func16, Tryd.ntmps16
    go_wp2_with fail
    go_ret
    exact ⟨-1, rfl, by omega, by omega, fun h => by omega, Ex.refl _⟩
  · go_enter Tryd.func16, Tryd.ntmps16
    go_wp2_with fail
    go_loopw [1, 5] (fun lv i wr => ∃ (k : Nat) (x : Int), k ≤ p.length ∧ i = .int .i64 k ∧ lv = .int .i64 x ∧ 0 ≤ x ∧ x + (p.length + sumN (fun i => (p.getD i ⟨#[]⟩).size) k : Nat) ≤ l ∧ Ex w wr) (fun _ i _ => p.length - (intOf i).toNat)
    case atStart => exact ⟨0, l - p.length, Nat.zero_le _, rfl, rfl, by omega, by simp only [sumN]; omega, Ex.refl _⟩
    case round =>
      obtain ⟨k, x, hk, rfl, rfl, hx0, hxl, hx⟩ := hrel
      have X : Hid (Ex w wr) := hx
      have HX : Hid (x + (p.length + sumN (fun i => (p.getD i ⟨#[]⟩).size) k : Nat) ≤ l) := hxl
      have hxm : x ≤ l := by omega
      clear hx hxl
      by_cases hlt : k < p.length
      · obtain ⟨b, o, rfl, hbs, _, hc⟩ := XA_at (T.out wr X.out) (by omega)
        have ck := hc k hlt
        have hz := S.out k hlt
        obtain ⟨t, ht⟩ : ∃ t, p.getD k ⟨#[]⟩ = t := ⟨_, rfl⟩
        rw [ht] at ck hz
        have HS : Hid ((p.getD k ⟨#[]⟩).size = t.size) := by show _ = _; rw [ht]
        clear hc ht
        by_cases hy : x - t.size < 0
        · go_wp2_with fail
          go_ret
          exact ⟨-1, rfl, by omega, by omega, fun h => by omega, X.out⟩
        · have HX2 : Hid (x - t.size + (p.length + sumN (fun i => (p.getD i ⟨#[]⟩).size) (k + 1) : Nat) ≤ l) := by
            have q1 := HX.out
            have q2 := HS.out
            show _ ≤ _
            simp only [sumN]
            omega
          go_wp2_with fail
          go_roundw
          case rel => exact ⟨k + 1, x - t.size, by omega, by go_num, rfl, by omega, HX2.out, X.out⟩
          case measure => simp [intOf]; omega
      · have hkl : k = p.length := by omega
        have HX2 : Hid (x + (xW p : Nat) ≤ l) := by
          have q1 := HX.out
          rw [hkl] at q1
          exact q1
        clear hkl
        go_wp2_with fail
        go_ret
        exact ⟨x, rfl, by omega, by omega, fun _ => ⟨by omega, HX2.out⟩, X.out⟩

/-- All lists and names are of a length that is one. -/
def TLm : TM → Prop
  | .nil => True
  | .node _ _ (_, _, s, p) k r => s.size ≤ 9223372036854775807 ∧ p.length ≤ 9223372036854775807 ∧ tlen k ≤ 9223372036854775807 ∧ TLm k ∧ TLm r
theorem TLm_at : ∀ {f : TM}, TLm f → ∀ i, i < tlen f → (tname f i).size ≤ 9223372036854775807 ∧ (tpath f i).length ≤ 9223372036854775807 ∧ tlen (tkid f i) ≤ 9223372036854775807 ∧ TLm (tkid f i)
  | .nil, _, i, h => by simp [tlen] at h
  | .node _ _ (_, _, _, _) k r, hs, 0, _ => ⟨hs.1, hs.2.1, hs.2.2.1, hs.2.2.2.1⟩
  | .node _ _ (_, _, _, _) k r, hs, i + 1, h => TLm_at hs.2.2.2.2 i (by simp only [tlen] at h; omega)

/-- Small, as far as it goes. -/
def TSmTo (f : TM) (k : Nat) : Prop := ∀ j, j < k → (tpath f j).length ≤ 1048576 ∧ tlen (tkid f j) ≤ 1048576 ∧ TSm (tkid f j)
theorem TSm_of : ∀ {f : TM}, TSmTo f (tlen f) → TSm f
  | .nil, _ => trivial
  | .node _ _ (_, _, _, p) k r, h => by
    have h0 := h 0 (by simp [tlen])
    simp only [tpath, tkid] at h0
    exact ⟨by omega, by omega, h0.2.2, TSm_of fun j hj => h (j + 1) (by simp only [tlen]; omega)⟩

set_option maxRecDepth 100000 in
set_option maxHeartbeats 2000000 in
theorem szTermS_by (f : TM) (a : Option Addr) (c : Nat) (l : Int) (w : World) (hlen : tlen f ≤ 9223372036854775807) (h0 : 0 ≤ l) (h1 : l ≤ 1048576) (hT : MA w 0 f a)
    (hK : ∀ j, j < tlen f → ∀ (pa : Option Addr) (pc : Nat) (a' : Option Addr) (c' : Nat) (m : Int) (w' : World), Ex w w' → 0 ≤ m → m ≤ 1048576 → MA w' 0 (tkid f j) a' → Calls Tryd.prog 40 #[.agg #[.int .i64 (tkind f j), .int .i64 (tnum f j), .string (tname f j), .slice pa (tpath f j).length pc, .slice a' (tlen (tkid f j)) c'], .int .i64 m] w' (SzP (tWk f j) ((tpath f j).length ≤ 1048576 ∧ tlen (tkid f j) ≤ 1048576 ∧ TSm (tkid f j)) m w')) :
    Calls Tryd.prog 29 #[.slice a (tlen f) c, .int .i64 l] w (SzP (tW f) (tlen f ≤ 1048576 ∧ TSm f) l w) := by
  have T : Hid (∀ w', Ex w w' → MA w' 0 f a) := fun _ h => MA_below hT h
  have I : Hid _ := hK
  clear hT hK
  by_cases hneg : l - tlen f < 0
  · go_enter Tryd.func29, Tryd.ntmps29
    go_wp2_with fail
    go_ret
    exact ⟨-1, rfl, by omega, by omega, fun h => by omega, Ex.refl _⟩
  · go_enter Tryd.func29, Tryd.ntmps29
    go_wp2_with fail
    go_loopw [1, 5] (fun lv i wr => ∃ (k : Nat) (x : Int), k ≤ tlen f ∧ i = .int .i64 k ∧ lv = .int .i64 x ∧ 0 ≤ x ∧ x + (tlen f + sumN (tWk f) k : Nat) ≤ l ∧ TSmTo f k ∧ Ex w wr) (fun _ i _ => tlen f - (intOf i).toNat)
    case atStart => exact ⟨0, l - tlen f, Nat.zero_le _, rfl, rfl, by omega, by simp only [sumN]; omega, fun j hj => by omega, Ex.refl _⟩
    case round =>
      obtain ⟨j, x, hk, rfl, rfl, hx0, hxl, hsm, hx⟩ := hrel
      have ST : Hid (TSmTo f j) := hsm
      have HX : Hid (x + (tlen f + sumN (tWk f) j : Nat) ≤ l) := hxl
      have hxm : x ≤ l := by omega
      clear hxl
      have X : Hid (Ex w wr) := hx
      clear hsm hx
      by_cases hlt : j < tlen f
      · obtain ⟨b, o, rfl, _, hbs, hk⟩ := MA_at (T.out wr X.out) (by omega)
        obtain ⟨e0, e1, e2, ⟨pa, pc, e3, hp'⟩, a', c', e4, hm'⟩ := hk j hlt
        have HI : Hid _ := I.out j hlt pa pc a' c' x wr X.out hx0 (by omega) hm'
        clear hk hp' hm'
        go_wp2_with fail
        refine Calls.mono HI.out ?_
        rintro e w1 ⟨y, rfl, hy0, hy1, hyf, hb1⟩
        have YF : Hid (0 ≤ y → (tpath f j).length ≤ 1048576 ∧ tlen (tkid f j) ≤ 1048576 ∧ TSm (tkid f j)) := fun h => (hyf h).1
        have YW : Hid (0 ≤ y → y + (tWk f j : Nat) ≤ x) := fun h => (hyf h).2
        have X1 : Hid (Ex w w1) := X.out.trans hb1
        clear hyf hb1 HI
        by_cases hy : y < 0
        · go_wp2_with fail
          go_ret
          exact ⟨-1, rfl, by omega, by omega, fun h => by omega, X1.out⟩
        · have HS : Hid (TSmTo f (j + 1)) := fun i hi => by
            by_cases hj' : i < j
            · exact ST.out i hj'
            · have e : i = j := by omega
              subst e
              exact YF.out (by omega)
          have HX2 : Hid (y + (tlen f + sumN (tWk f) (j + 1) : Nat) ≤ l) := by
            have q1 := HX.out
            have q2 := YW.out (by omega)
            show _ ≤ _
            simp only [sumN]
            omega
          go_wp2_with fail
          go_roundw
          case rel => exact ⟨j + 1, y, by omega, by go_num, rfl, by omega, HX2.out, HS.out, X1.out⟩
          case measure => simp [intOf]; omega
      · have hjl : j = tlen f := by omega
        have HS : Hid _ := TSm_of (hjl ▸ ST.out)
        have HX2 : Hid (x + (tW f : Nat) ≤ l) := by
          have q1 := HX.out
          rw [hjl] at q1
          show _ ≤ _
          rw [tW_sum]
          exact q1
        clear hjl
        go_wp2_with fail
        go_ret
        exact ⟨x, rfl, by omega, by omega, fun _ => ⟨⟨by omega, HS.out⟩, HX2.out⟩, X.out⟩

set_option maxRecDepth 100000 in
set_option maxHeartbeats 2000000 in
theorem szTerm_by (k n : Int) (s : ByteArray) (np : Nat) (pa : Option Addr) (pc : Nat) (f : TM) (a : Option Addr) (c : Nat) (l : Int) (w : World) (hs : s.size ≤ 9223372036854775807) (hnp : np ≤ 9223372036854775807) (hK : ∀ (m : Int) (w' : World), Ex w w' → 0 ≤ m → m ≤ 1048576 → Calls Tryd.prog 29 #[.slice a (tlen f) c, .int .i64 m] w' (SzP (tW f) (tlen f ≤ 1048576 ∧ TSm f) m w')) (h0 : 0 ≤ l) (h1 : l ≤ 1048576) :
    Calls Tryd.prog 40 #[.agg #[.int .i64 k, .int .i64 n, .string s, .slice pa np pc, .slice a (tlen f) c], .int .i64 l] w (SzP (s.size + np + tW f) (np ≤ 1048576 ∧ tlen f ≤ 1048576 ∧ TSm f) l w) := by
  have N : Hid (Ex w (w.alloc (.cells #[.int .i64 k, .int .i64 n, .string s, .slice pa np pc, .slice a (tlen f) c] 84))) := Ex.new _ _
  have C : Hid (∀ w', Ex (w.alloc (.cells #[.int .i64 k, .int .i64 n, .string s, .slice pa np pc, .slice a (tlen f) c] 84)) w' → w'.cell? ⟨w.heap.size, 0, none⟩ = some (.int .i64 k) ∧ w'.cell? ⟨w.heap.size, 1, none⟩ = some (.int .i64 n) ∧ w'.cell? ⟨w.heap.size, 2, none⟩ = some (.string s) ∧ w'.cell? ⟨w.heap.size, 3, none⟩ = some (.slice pa np pc) ∧ w'.cell? ⟨w.heap.size, 4, none⟩ = some (.slice a (tlen f) c)) := fun w' h => ⟨h.at (by simp), h.at (by simp), h.at (by simp), h.at (by simp), h.at (by simp)⟩
  by_cases hb1 : l - s.size < 0
  · go_enter Tryd.func40, Tryd.ntmps40
    go_wp2_with fail
    go_ret
    exact ⟨-1, rfl, by omega, by omega, fun h => by omega, N.out⟩
  obtain ⟨m1, hm1⟩ : ∃ m : Int, m = l - s.size := ⟨_, rfl⟩
  have hp1 : 0 ≤ m1 := by omega
  have HV1 : Hid (m1 + (s.size : Nat) ≤ l) := by show _ ≤ _; omega
  have hq1 : m1 ≤ l := by omega
  go_enter Tryd.func40, Tryd.ntmps40
  go_wp2_with fail
  rw [← hm1]
  clear hb1 hm1
  refine (szInts_any np pc pa m1 _ hnp (by omega) (by omega)).mono ?_
  rintro e w2 ⟨x2, rfl, hxa2, hxb2, hxf2, hxe2⟩
  have F2 : Hid (0 ≤ x2 → np ≤ 1048576) := fun h => (hxf2 h).1
  have HV2 : Hid (0 ≤ x2 → x2 + (np : Nat) ≤ m1) := fun h => (hxf2 h).2
  have X2 : Hid (Ex (w.alloc (.cells #[.int .i64 k, .int .i64 n, .string s, .slice pa np pc, .slice a (tlen f) c] 84)) w2) := hxe2
  have hr2 : x2 ≤ l := by omega
  clear hxf2 hxe2
  obtain ⟨c0, c1, c2, c3, c4⟩ := C.out w2 X2.out
  by_cases hx2 : x2 < 0
  · go_wp2_with fail
    go_ret
    exact ⟨-1, rfl, by omega, by omega, fun h => by omega, (N.out.trans X2.out)⟩
  go_wp2_with fail
  refine (hK x2 _ (N.out.trans X2.out) (by omega) (by omega)).mono ?_
  rintro e w3 ⟨x3, rfl, hxa3, hxb3, hxf3, hxe3⟩
  have F3 : Hid (0 ≤ x3 → tlen f ≤ 1048576 ∧ TSm f) := fun h => (hxf3 h).1
  have HV3 : Hid (0 ≤ x3 → x3 + (tW f : Nat) ≤ x2) := fun h => (hxf3 h).2
  have X3 : Hid (Ex (w.alloc (.cells #[.int .i64 k, .int .i64 n, .string s, .slice pa np pc, .slice a (tlen f) c] 84)) w3) := X2.out.trans hxe3
  have hr3 : x3 ≤ l := by omega
  clear hxf3 hxe3
  clear c0 c1 c2 c3 c4
  obtain ⟨c0, c1, c2, c3, c4⟩ := C.out w3 X3.out
  by_cases hx3 : x3 < 0
  · go_wp2_with fail
    go_ret
    exact ⟨-1, rfl, by omega, by omega, fun h => by omega, (N.out.trans X3.out)⟩
  go_wp2_with fail
  go_ret
  exact ⟨x3, rfl, by omega, by omega, fun _ => ⟨⟨F2.out (by omega), F3.out (by omega)⟩, by have v1 := HV1.out; have v2 := HV2.out (by omega); have v3 := HV3.out (by omega); omega⟩, (N.out.trans X3.out)⟩

theorem szTermS_all : ∀ (d : Nat) (f : TM) (a : Option Addr) (c : Nat) (l : Int) (w : World), tdep f < d → tlen f ≤ 9223372036854775807 → TLm f → 0 ≤ l → l ≤ 1048576 → MA w 0 f a →
    Calls Tryd.prog 29 #[.slice a (tlen f) c, .int .i64 l] w (SzP (tW f) (tlen f ≤ 1048576 ∧ TSm f) l w) := by
  intro d
  induction d with
  | zero => intro f a c l w hd; omega
  | succ d ih =>
    intro f a c l w hd hl hm h0 h1 hT
    refine szTermS_by f a c l w hl h0 h1 hT fun j hj pa pc a' c' m w' _ hm0 hm1 hk => ?_
    obtain ⟨g1, g2, g3, g4⟩ := TLm_at hm j hj
    have hdj := tdep_kid f j hj
    exact szTerm_by _ _ _ _ pa pc _ a' c' m w' g1 g2 (fun m2 w2 hx2 hm2 hm3 => ih _ a' c' m2 w2 (by omega) g3 g4 hm2 hm3 (MA_below hk hx2)) hm0 hm1

theorem szTermS_any (f : TM) (a : Option Addr) (c : Nat) (l : Int) (w : World) (hl : tlen f ≤ 9223372036854775807) (hm : TLm f) (h0 : 0 ≤ l) (h1 : l ≤ 1048576) (hT : MA w 0 f a) :
    Calls Tryd.prog 29 #[.slice a (tlen f) c, .int .i64 l] w (SzP (tW f) (tlen f ≤ 1048576 ∧ TSm f) l w) := szTermS_all (tdep f + 1) f a c l w (by omega) hl hm h0 h1 hT

end Go.Proofs.YtgpdnoghlommeaaDoor
