/- Walks: numbers, texts and terms written over. -/
import Derived.Test.YthdihpcpobhadaaDoorTU1

import Derived.Test.YthdihpcpobhadaaDoorCV

import Derived.Test.YthdihpcpobhadaaDoorFR

namespace Go.Proofs.YthdihpcpobhadaaDoor

open Go.RowKit Go.Deep

attribute [local go_sem ↓] Go.wp_at_zero Go.wp_at_succ

/-- Rows stay as they are; numbers stay numbers, texts stay texts, and what may be written may be. -/
structure Rs (w w' : World) : Prop where
  size : w.heap.size ≤ w'.heap.size
  sl : ∀ b i a n c, w.cell? ⟨b, i, none⟩ = some (.slice a n c) → w'.cell? ⟨b, i, none⟩ = some (.slice a n c)
  it : ∀ b i x, w.cell? ⟨b, i, none⟩ = some (.int .i64 x) → ∃ y, w'.cell? ⟨b, i, none⟩ = some (.int .i64 y)
  st : ∀ b i s, w.cell? ⟨b, i, none⟩ = some (.string s) → ∃ t, w'.cell? ⟨b, i, none⟩ = some (.string t)
  uf : ∀ b, Unf w b → Unf w' b
theorem Rs.refl (w : World) : Rs w w := ⟨Nat.le_refl _, fun _ _ _ _ _ h => h, fun _ _ x h => ⟨x, h⟩, fun _ _ s h => ⟨s, h⟩, fun _ h => h⟩
theorem Rs.trans {a b c : World} (h : Rs a b) (k : Rs b c) : Rs a c := by
  refine ⟨Nat.le_trans h.size k.size, fun x i a n c hc => k.sl x i a n c (h.sl x i a n c hc), fun x i y hc => ?_, fun x i y hc => ?_, fun x hx => k.uf x (h.uf x hx)⟩
  · obtain ⟨z, hz⟩ := h.it x i y hc
    exact k.it x i z hz
  · obtain ⟨z, hz⟩ := h.st x i y hc
    exact k.st x i z hz
theorem Rs.of_ex {a b : World} (h : Ex a b) : Rs a b := ⟨h.size, fun _ _ _ _ _ hc => h.at hc, fun _ _ x hc => ⟨x, h.at hc⟩, fun _ _ s hc => ⟨s, h.at hc⟩, fun _ hu => hu.ex h⟩
theorem Rs.ex {a b c : World} (h : Rs a b) (k : Ex b c) : Rs a c := h.trans (Rs.of_ex k)
theorem cell_set_or (w : World) (g i b j : Nat) (v : Value) : (b = g ∧ j = i) ∨ (w.setCell ⟨g, i, none⟩ v).cell? ⟨b, j, none⟩ = w.cell? ⟨b, j, none⟩ := by
  by_cases h : b = g ∧ j = i
  · exact Or.inl h
  · refine Or.inr ?_
    apply World.cell?_setCell_other
    intro e
    injection e with e1 e2
    exact h ⟨e1.symm, e2.symm⟩
theorem Rs.set_int {w : World} {g i : Nat} {x : Int} (h : w.cell? ⟨g, i, none⟩ = some (.int .i64 x)) (y : Int) : Rs w (w.setCell ⟨g, i, none⟩ (.int .i64 y)) := by
  refine ⟨by rw [World.size_setCell]; exact Nat.le_refl _, fun b j a n c hc => ?_, fun b j z hc => ?_, fun b j z hc => ?_, fun b hu => hu.set g i _⟩
  · rcases cell_set_or w g i b j (.int .i64 y) with ⟨rfl, rfl⟩ | e
    · rw [h] at hc; cases hc
    · rw [e]; exact hc
  · rcases cell_set_or w g i b j (.int .i64 y) with ⟨rfl, rfl⟩ | e
    · exact ⟨y, World.cell?_setCell_same _ _ _ h⟩
    · rw [e]; exact ⟨z, hc⟩
  · rcases cell_set_or w g i b j (.int .i64 y) with ⟨rfl, rfl⟩ | e
    · rw [h] at hc; cases hc
    · rw [e]; exact ⟨z, hc⟩
theorem Rs.set_str {w : World} {g i : Nat} {x : ByteArray} (h : w.cell? ⟨g, i, none⟩ = some (.string x)) (y : ByteArray) : Rs w (w.setCell ⟨g, i, none⟩ (.string y)) := by
  refine ⟨by rw [World.size_setCell]; exact Nat.le_refl _, fun b j a n c hc => ?_, fun b j z hc => ?_, fun b j z hc => ?_, fun b hu => hu.set g i _⟩
  · rcases cell_set_or w g i b j (.string y) with ⟨rfl, rfl⟩ | e
    · rw [h] at hc; cases hc
    · rw [e]; exact hc
  · rcases cell_set_or w g i b j (.string y) with ⟨rfl, rfl⟩ | e
    · rw [h] at hc; cases hc
    · rw [e]; exact ⟨z, hc⟩
  · rcases cell_set_or w g i b j (.string y) with ⟨rfl, rfl⟩ | e
    · exact ⟨y, World.cell?_setCell_same _ _ _ h⟩
    · rw [e]; exact ⟨z, hc⟩

/-- What writing over tells: the next number; only blocks of S have turned, and these not in form. -/
def MkU (S : Nat → Prop) (k : Int) (n : Nat) (w : World) (e : Ending) (w' : World) : Prop := ∃ x : Int, e = .returned (.int .i64 x) ∧ k ≤ x ∧ x ≤ k + n ∧ FrS S w w' ∧ Rs w w'

/-- Some text. -/
def TxP (w : World) (e : Ending) (w' : World) : Prop := ∃ s, e = .returned (.string s) ∧ Ex w w'
set_option maxRecDepth 100000 in
set_option maxHeartbeats 2000000 in
theorem markText_any (k : Int) (w : World) (h0 : 0 ≤ k) (h1 : k ≤ 1000000000) : Calls Tryd.prog 54 #[.int .i64 k] w (TxP w) := by
  by_cases hk : k ≤ 0
  · have d1 : decide (k ≤ 0) = true := decide_eq_true hk
    go_enter Tryd.func54, Tryd.ntmps54
    go_wp2_with fail
    go_ret
    exact ⟨_, rfl, Ex.refl _⟩
  · have d1 : decide (k ≤ 0) = false := decide_eq_false hk
    go_enter Tryd.func54, Tryd.ntmps54
    go_wp2_with fail
    go_loopw [0, 3] (fun kv ov wr => ∃ (x : Int) (s : ByteArray), kv = .int .i64 x ∧ ov = .string s ∧ 0 ≤ x ∧ x + s.size ≤ 1000000000 ∧ Ex w wr) (fun kv _ _ => (intOf kv).toNat)
    case atStart => exact ⟨k, ⟨#[]⟩, rfl, rfl, h0, by show k + (0 : Nat) ≤ _; omega, Ex.refl _⟩
    case round =>
      obtain ⟨x, s, rfl, rfl, hx0, hxs, hx⟩ := hrel
      have X : Hid (Ex w wr) := hx
      clear hx
      by_cases hp : 0 < x
      · have d2 : decide ((0 : Int) < x) = true := decide_eq_true hp
        obtain ⟨q, hq⟩ : ∃ q, x / 10 = q := ⟨_, rfl⟩
        obtain ⟨m, hmm⟩ : ∃ m, x % 10 = m := ⟨_, rfl⟩
        have hq' : x.tdiv 10 = q := by rw [Int.tdiv_eq_ediv_of_nonneg hx0]; exact hq
        have hm' : x.tmod 10 = m := by rw [Int.tmod_eq_emod_of_nonneg hx0]; exact hmm
        have wq : IntKind.i64.wrap q = q := by rw [IntKind.wrap_i64]; omega
        have wm : IntKind.i64.wrap m = m := by rw [IntKind.wrap_i64]; omega
        have w48 : IntKind.i64.wrap (48 + m) = 48 + m := by rw [IntKind.wrap_i64]; omega
        have w8 : IntKind.u8.wrap (48 + m) = 48 + m := by simp [IntKind.wrap, IntKind.bits, IntKind.signed]; omega
        have cv := conv_one (48 + m)
        obtain ⟨t, ht⟩ : ∃ t, strOfNums [48 + m] = t := ⟨_, rfl⟩
        rw [ht] at cv
        have htl : t.size = 1 := by rw [← ht, strOfNums_size]; rfl
        have n1 : ¬ 9223372036854775807 < t.size + s.size := by omega
        have HX : Hid (0 ≤ q ∧ q + ((t ++ s).size : Nat) ≤ 1000000000 ∧ q < x) := by
          show _ ∧ _
          rw [ByteArray.size_append, htl]
          omega
        clear ht htl hq hmm hxs
        go_wp2_with fail
        go_roundw
        case rel => exact ⟨q, t ++ s, rfl, rfl, HX.out.1, HX.out.2.1, X.out.alloc _⟩
        case measure => have := HX.out; simp [intOf]; omega
      · have d2 : decide ((0 : Int) < x) = false := decide_eq_false hp
        have n1 : ¬ 9223372036854775807 < 1 + s.size := by omega
        go_wp2_with fail
        go_ret
        exact ⟨_, rfl, X.out⟩

set_option maxRecDepth 100000 in
set_option maxHeartbeats 2000000 in
theorem markInts_u {w0 : World} {S : Nat → Prop} (hS : ∀ b, S b → Unf w0 b) (p : List Int) (a : Option Addr) (c : Nat) (k : Int) (hP : PS w0 S p a) (h0 : 0 ≤ k) (hk : k + p.length ≤ 1000000000) (w : World) (hR : Rs w0 w) :
    Calls Tryd.prog 55 #[.slice a p.length c, .int .i64 k] w (MkU S k p.length w) := by
  have P : Hid (PS w0 S p a) := hP
  have R : Hid (Rs w0 w) := hR
  have US : Hid _ := hS
  clear hP hR hS
  go_enter Tryd.func55, Tryd.ntmps55
  go_wp2_with fail
  go_loopw [1, 5] (fun kv i wr => ∃ (j : Nat), j ≤ p.length ∧ i = .int .i64 j ∧ kv = .int .i64 (k + j) ∧ FrS S w wr ∧ Rs w wr) (fun _ i _ => p.length - (intOf i).toNat)
  case atStart => exact ⟨0, by omega, rfl, by simp, FrS.refl _ _, Rs.refl _⟩
  case round =>
    obtain ⟨j, hj, rfl, rfl, hf, hr⟩ := hrel
    have F : Hid (FrS S w wr) := hf
    have RR : Hid (Rs w wr) := hr
    clear hf hr
    obtain ⟨x, hx⟩ : ∃ x : Int, x = k + (j : Int) := ⟨_, rfl⟩
    have HX : Hid (x = k + (j : Int)) := hx
    rw [← hx]
    have hx0 : 0 ≤ x := by omega
    have hx1 : x ≤ 1000000000 := by omega
    clear hx
    by_cases hlt : j < p.length
    · rcases P.out with h | ⟨b, o, rfl, hb, hc⟩
      · omega
      have r2 := (R.out.trans RR.out)
      obtain ⟨y, hy⟩ := r2.it _ _ _ (hc j hlt)
      have hfz := Unf.free (r2.uf b (US.out b hb)) (o + j)
      have F2 : Hid (FrS S w (wr.setCell ⟨b, o + j, none⟩ (.int .i64 x))) := F.out.set hb _
      have R2 : Hid (Rs w (wr.setCell ⟨b, o + j, none⟩ (.int .i64 x))) := RR.out.trans (Rs.set_int hy x)
      clear hc r2
      go_wp2_with fail
      go_roundw
      case rel => exact ⟨j + 1, by omega, by go_num, by have := HX.out; congr 1; omega, F2.out, R2.out⟩
      case measure => simp [intOf]; omega
    · have HJ : Hid (j = p.length) := by show _ = _; omega
      go_wp2_with fail
      go_ret
      exact ⟨x, rfl, by have := HX.out; omega, by have := HX.out; have := HJ.out; omega, F.out, RR.out⟩

set_option maxRecDepth 100000 in
set_option maxHeartbeats 2000000 in
theorem markTexts_u {w0 : World} {S : Nat → Prop} (hS : ∀ b, S b → Unf w0 b) (p : List ByteArray) (a : Option Addr) (c : Nat) (k : Int) (hP : XS w0 S p a) (h0 : 0 ≤ k) (hk : k + p.length ≤ 1000000000) (w : World) (hR : Rs w0 w) :
    Calls Tryd.prog 23 #[.slice a p.length c, .int .i64 k] w (MkU S k p.length w) := by
  have P : Hid (XS w0 S p a) := hP
  have R : Hid (Rs w0 w) := hR
  have US : Hid _ := hS
  clear hP hR hS
  go_enter Tryd.func23, Tryd.ntmps23
  go_wp2_with fail
  go_loopw [1, 5] (fun kv i wr => ∃ (j : Nat), j ≤ p.length ∧ i = .int .i64 j ∧ kv = .int .i64 (k + j) ∧ FrS S w wr ∧ Rs w wr) (fun _ i _ => p.length - (intOf i).toNat)
  case atStart => exact ⟨0, by omega, rfl, by simp, FrS.refl _ _, Rs.refl _⟩
  case round =>
    obtain ⟨j, hj, rfl, rfl, hf, hr⟩ := hrel
    have F : Hid (FrS S w wr) := hf
    have RR : Hid (Rs w wr) := hr
    clear hf hr
    obtain ⟨x, hx⟩ : ∃ x : Int, x = k + (j : Int) := ⟨_, rfl⟩
    have HX : Hid (x = k + (j : Int)) := hx
    rw [← hx]
    have hx0 : 0 ≤ x := by omega
    have hx1 : x ≤ 1000000000 := by omega
    clear hx
    by_cases hlt : j < p.length
    · rcases P.out with h | ⟨b, o, rfl, hb, hc⟩
      · omega
      have HC : Hid _ := hc j hlt
      have HB : Hid (S b) := hb
      clear hc hb
      go_wp2_with fail
      refine Calls.mono (markText_any x _ hx0 hx1) ?_
      rintro e w1 ⟨s, rfl, hb1⟩
      have r2 := (R.out.trans RR.out).ex hb1
      obtain ⟨y, hy⟩ := r2.st _ _ _ HC.out
      have hfz := Unf.free (r2.uf b (US.out b HB.out)) (o + j)
      have F2 : Hid (FrS S w (w1.setCell ⟨b, o + j, none⟩ (.string s))) := (F.out.trans (FrS.of_ex hb1)).set HB.out _
      have R2 : Hid (Rs w (w1.setCell ⟨b, o + j, none⟩ (.string s))) := (RR.out.ex hb1).trans (Rs.set_str hy s)
      clear r2 hb1
      go_wp2_with fail
      go_roundw
      case rel => exact ⟨j + 1, by omega, by go_num, by have := HX.out; congr 1; omega, F2.out, R2.out⟩
      case measure => simp [intOf]; omega
    · have HJ : Hid (j = p.length) := by show _ = _; omega
      go_wp2_with fail
      go_ret
      exact ⟨x, rfl, by have := HX.out; omega, by have := HX.out; have := HJ.out; omega, F.out, RR.out⟩

end Go.Proofs.YthdihpcpobhadaaDoor
