/- Walks: a type's text. Walks: a call's text, and rows of types that are held against each other, by the program. A map that holds what was told of texts: each of its entries holds what is good for its text. How many there are does not matter. Walks: the program's functions that are ok. Walks: a function by its name, the map of types copied, by the program. -/
import Derived.Test.YtgpdnoghlommeaaGreatDoorGTM2
import Derived.Test.YtgpdnoghlommeaaGreatDoorGKO5
import Derived.Test.YtgpdnoghlommeaaGreatDoorGVS1
import Derived.Maps.OwnSet
import Derived.Test.YtgpdnoghlommeaaGreatDoorGKO7
import Derived.Test.YtgpdnoghlommeaaGreatDoorBD6
import Derived.Test.YtgpdnoghlommeaaGreatDoorGKS1
import Derived.Test.YtgpdnoghlommeaaGreatDoorGBD4
namespace Go.Proofs.YtgpdnoghlommeaaGreatDoor

open Go.RowKit Go.Deep

attribute [local go_sem ↓] Go.wp_at_zero Go.wp_at_succ

/-- A type's text. -/
def say : Nat → F → ByteArray
  | 0, _ => ⟨#[]⟩
  | r + 1, f => if len f = 0 then ⟨#[105]⟩ else ⟨#[40]⟩ ++ say r (kid f 0) ++ ⟨#[44]⟩ ++ say r (kid f 1) ++ ⟨#[41]⟩

theorem say_len : ∀ (r : Nat) (f : F), (say r f).size ≤ 4 ^ (r + 1)
  | 0, _ => by simp [say, ByteArray.size]
  | r + 1, f => by
    have h1 := say_len r (kid f 0)
    have h2 := say_len r (kid f 1)
    have h3 : 4 ^ (r + 1 + 1) = 4 * 4 ^ (r + 1) := by rw [Nat.pow_succ]; omega
    have h4 : 4 ≤ 4 ^ (r + 1) := by
      have := Nat.pow_le_pow_right (n := 4) (by omega) (show 1 ≤ r + 1 by omega); simpa using this
    simp only [say]
    split
    · simp [ByteArray.size]; omega
    · simp only [ByteArray.size_append]
      have e1 : (⟨#[40]⟩ : ByteArray).size = 1 := rfl
      have e2 : (⟨#[44]⟩ : ByteArray).size = 1 := rfl
      have e3 : (⟨#[41]⟩ : ByteArray).size = 1 := rfl
      omega

set_option maxHeartbeats 2000000 in
theorem typeWrite_any : ∀ (r : Nat) (f : F) (a : Option Addr) (cap : Nat) (lo : Nat) (w : World), r ≤ 4 → fits r f = true → TA w lo f a →
    Calls Tryz.prog 115 #[.agg #[.slice a (len f) cap]] w fun e w' => e = .returned (.string (say r f)) ∧ Ex w w'
  | 0, f, a, cap, lo, w, hr, hf, hT => by simp [fits] at hf
  | r + 1, f, a, cap, lo, w, hr, hf, hT => by
    by_cases h0 : len f = 0
    · have h0' : ((len f : Int) == 0) = true := by simp [h0]
      have H0 : Hid (len f = 0) := h0
      clear h0
      go_enter Tryz.func115, Tryz.ntmps115
      go_wp2_with fail
      go_ret
      exact ⟨by rw [say, if_pos H0.out]; rfl, Ex.new _ _⟩
    · have h2 : len f = 2 := by have := fits_len hf; omega
      rw [fits_two h2, Bool.and_eq_true] at hf
      obtain ⟨b, o, rfl, hlo, hbs, hk⟩ := TA_at hT (by omega)
      obtain ⟨a0, c0, hc0, ht0⟩ := hk 0 (by omega)
      obtain ⟨a1, c1, hc1, ht1⟩ := hk 1 (by omega)
      rw [Nat.add_zero] at hc0
      have I0 : Hid _ := fun w' h => typeWrite_any r (kid f 0) a0 c0 lo w' (by omega) hf.1 (TA_below ht0 h)
      have I1 : Hid _ := fun w' h => typeWrite_any r (kid f 1) a1 c1 lo w' (by omega) hf.2 (TA_below ht1 h)
      have E0 : Hid (Ex w (w.alloc (.cells #[.slice (some ⟨b, o, none⟩) 2 cap] 55))) := Ex.new _ _
      have KS : Hid (∀ w', Ex (w.alloc (.cells #[.slice (some ⟨b, o, none⟩) 2 cap] 55)) w' → (Ex (w.alloc (.cells #[.slice (some ⟨b, o, none⟩) 2 cap] 55)) w' ∧ w'.cell? ⟨w.heap.size, 0, none⟩ = some (.slice (some ⟨b, o, none⟩) 2 cap) ∧ w'.cell? ⟨b, o, none⟩ = some (.slice a0 (len (kid f 0)) c0) ∧ w'.cell? ⟨b, o + 1, none⟩ = some (.slice a1 (len (kid f 1)) c1))) := fun w' h => ⟨h, Ex.at h (by simp), Ex.at h (Ex.at (Ex.new _ _) hc0), Ex.at h (Ex.at (Ex.new _ _) hc1)⟩
      have s0 := say_len r (kid f 0)
      have s1 := say_len r (kid f 1)
      have s3 : 4 ^ (r + 1) ≤ 4 ^ 5 := Nat.pow_le_pow_right (by omega) (by omega)
      have HS : Hid (say (r + 1) f = ⟨#[40]⟩ ++ say r (kid f 0) ++ ⟨#[44]⟩ ++ say r (kid f 1) ++ ⟨#[41]⟩) := by show _ = _; rw [say, if_neg h0]
      generalize say (r + 1) f = tt at *
      generalize say r (kid f 0) = t0 at *
      generalize say r (kid f 1) = t1 at *
      have n1 : ¬ 9223372036854775807 < 1 + t0.size := by omega
      have n2 : ¬ 9223372036854775807 < 1 + t0.size + 1 := by omega
      have n3 : ¬ 9223372036854775807 < 1 + t0.size + 1 + t1.size := by omega
      have n4 : ¬ 9223372036854775807 < 1 + t0.size + 1 + t1.size + 1 := by omega
      rw [h2]
      clear hk hT ht0 ht1 hf h2 h0 s0 s1 s3
      go_enter Tryz.func115, Tryz.ntmps115
      go_wp2_with fail
      go_region_held3 (fun w' => Ex (w.alloc (.cells #[.slice (some ⟨b, o, none⟩) 2 cap] 55)) w' ∧ w'.cell? ⟨w.heap.size, 0, none⟩ = some (.slice (some ⟨b, o, none⟩) 2 cap) ∧ w'.cell? ⟨b, o, none⟩ = some (.slice a0 (len (kid f 0)) c0) ∧ w'.cell? ⟨b, o + 1, none⟩ = some (.slice a1 (len (kid f 1)) c1)) ((refine KS.out _ ?_; first | exact (Ex.refl _).drew | exact (And.left ‹Ex _ _ ∧ _›) | exact Ex.trans (And.left ‹Ex _ _ ∧ _›) ‹Ex _ _›)) (first | (go_at_call_of 115 (Value.slice a0 (len (kid f 0)) c0); refine (I0.out _ (Ex.trans E0.out (And.left ‹Ex _ _ ∧ _›))).mono ?_; rintro e w1 ⟨rfl, hb0⟩) | (go_at_call_of 115 (Value.slice a1 (len (kid f 1)) c1); refine (I1.out _ (Ex.trans E0.out (And.left ‹Ex _ _ ∧ _›))).mono ?_; rintro e w2 ⟨rfl, hb1⟩))
      go_wp2_with fail
      go_ret
      exact ⟨ret_s HS.out.symm, E0.out.trans (And.left ‹Ex _ _ ∧ _›)⟩

/-- What TypeText tells. -/
def textT (f : F) : ByteArray := if fits 4 f = true then say 4 f else ⟨#[]⟩

end Go.Proofs.YtgpdnoghlommeaaGreatDoor

namespace Go.Proofs.YtgpdnoghlommeaaGreatDoor

open Go.RowKit Go.Deep

attribute [local go_sem ↓] Go.wp_at_zero Go.wp_at_succ

/-- A call's text, with so many types. -/
def textK (s : ByteArray) (l : F) : Nat → ByteArray
  | 0 => s
  | k + 1 => textK s l k ++ (⟨#[32]⟩ ++ say 4 (kid l k))
theorem say_sayL : ∀ (r : Nat) (f : F), (say r f).data.toList = sayL r f
  | 0, _ => rfl
  | r + 1, f => by
    rw [say, sayL]
    split
    · rfl
    · simp [ByteArray.data_append, say_sayL r]
theorem rowL_end (l : F) : ∀ (n i : Nat), rowL l i (n + 1) = rowL l i n ++ 32 :: sayL 4 (kid l (i + n))
  | 0, i => by simp [rowL]
  | n + 1, i => by
    rw [rowL, rowL_end l n (i + 1), rowL, show i + 1 + n = i + (n + 1) by omega]
    simp
theorem textK_list (s : ByteArray) (l : F) : ∀ k, (textK s l k).data.toList = s.data.toList ++ rowL l 0 k
  | 0 => by simp [textK, rowL]
  | k + 1 => by
    rw [textK, rowL_end, Nat.zero_add, ByteArray.data_append, Array.toList_append, ByteArray.data_append, Array.toList_append, textK_list s l k, say_sayL]
    simp
theorem textK_size (s : ByteArray) (l : F) : ∀ k, (textK s l k).size ≤ s.size + k * 1025
  | 0 => by simp [textK]
  | k + 1 => by
    have h1 := textK_size s l k
    have h2 := say_len 4 (kid l k)
    have e1 : (⟨#[32]⟩ : ByteArray).size = 1 := rfl
    rw [textK, ByteArray.size_append, ByteArray.size_append]
    simp only [Nat.reduceAdd, Nat.reducePow] at h2
    omega

set_option maxRecDepth 100000 in
set_option maxHeartbeats 2000000 in
theorem callText_any (s : ByteArray) (l : F) (a : Option Addr) (c : Nat) (w : World) (S : Nat → Prop) (hs : s.size ≤ 1000000) (hl : len l ≤ 1000000) (hf : fitL l) (hV : SA w S l a) :
    Calls Tryz.prog 84 #[.string s, .slice a (len l) c] w fun e w' => e = .returned (.string (textK s l (len l))) ∧ Ex w w' := by
  have V : Hid (∀ w', Ex w w' → SA w' S l a) := fun _ h => SA_ex hV h
  have FT : Hid (fitL l) := hf
  have SZ : Hid (∀ k, k ≤ len l → (textK s l k).size ≤ 1100000000) := fun k hk => by
    have h := textK_size s l k
    have h2 : k * 1025 ≤ 1000000 * 1025 := Nat.mul_le_mul (by omega) (Nat.le_refl _)
    omega
  obtain ⟨R, hR⟩ : ∃ R, R = textK s l (len l) := ⟨_, rfl⟩
  have RR : Hid (R = textK s l (len l)) := hR
  rw [← hR]
  clear hV hf hR
  go_enter Tryz.func84, Tryz.ntmps84
  go_wp2_with fail
  go_loopw [5, 7, 11] (fun t _ i wr => ∃ (j : Nat) (x : ByteArray), j ≤ len l ∧ i = .int .i64 j ∧ t = .string x ∧ x = textK s l j ∧ Ex w wr) (fun _ _ i _ => len l - (intOf i).toNat)
  case atStart => exact ⟨0, s, Nat.zero_le _, rfl, rfl, rfl, Ex.refl _⟩
  case round =>
    obtain ⟨j, x, hj, rfl, rfl, hxe, hx⟩ := hrel
    have XE : Hid (x = textK s l j) := hxe
    have E : Hid (Ex w wr) := hx
    clear hxe hx
    by_cases hlt : j < len l
    · obtain ⟨b, o, rfl, _, hbs, hk⟩ := SA_at (V.out wr E.out) (by omega)
      obtain ⟨a1, c1, hc1, ht1⟩ := hk j hlt
      have TW : Hid (∀ w', Ex wr w' → Calls Tryz.prog 115 #[.agg #[.slice a1 (len (kid l j)) c1]] w' fun e w'' => e = .returned (.string (say 4 (kid l j))) ∧ Ex w' w'') := fun w' h => typeWrite_any 4 (kid l j) a1 c1 0 w' (Nat.le_refl _) (FT.out j hlt) (SA_mono (SA_ex ht1 h) fun _ _ _ => Nat.zero_le _)
      have s0 := say_len 4 (kid l j)
      simp only [Nat.reduceAdd, Nat.reducePow] at s0
      have XN : Hid (x ++ (⟨#[32]⟩ ++ say 4 (kid l j)) = textK s l (j + 1)) := by
        show _ = _
        rw [textK, XE.out]
      have sx : x.size ≤ 1100000000 := by rw [XE.out]; exact SZ.out j hj
      obtain ⟨y, hy⟩ : ∃ y, say 4 (kid l j) = y := ⟨_, rfl⟩
      rw [hy] at TW s0 XN
      have n1 : ¬ 9223372036854775807 < 1 + y.size := by omega
      have n2 : ¬ 9223372036854775807 < x.size + (1 + y.size) := by omega
      clear hk ht1 hy
      go_wp2_with fail
      refine (TW.out _ (Ex.new _ _)).mono ?_
      rintro e w1 ⟨rfl, hb1⟩
      have X1 : Hid (Ex w w1) := E.out.trans ((Ex.new _ _).trans hb1)
      clear hb1 TW hc1
      go_wp2_with fail
      go_roundw
      case rel => exact ⟨j + 1, _, by omega, by go_num, rfl, XN.out, X1.out⟩
      case measure => simp [intOf]; omega
    · have HR : Hid (x = R) := by
        have e : j = len l := by omega
        show _ = _
        rw [XE.out, RR.out, e]
      go_wp2_with fail
      go_ret
      exact ⟨by rw [HR.out]; rfl, E.out⟩

set_option maxRecDepth 100000 in
set_option maxHeartbeats 2000000 in
theorem equalTypes_any (l r : F) (a : Option Addr) (c : Nat) (a' : Option Addr) (c' : Nat) (w : World) (S S' : Nat → Prop) (hl : len l ≤ 1000000000) (hr : len r ≤ 1000000000) (hfl : fitL l) (hfr : fitL r) (hV : SA w S l a) (hV' : SA w S' r a') :
    Calls Tryz.prog 149 #[.slice a (len l) c, .slice a' (len r) c', .func (.func 150) #[] #[]] w fun e w' => e = .returned (.bool (eqT l r)) ∧ Ex w w' := by
  have V : Hid (∀ w', Ex w w' → SA w' S l a ∧ SA w' S' r a') := fun _ h => ⟨SA_ex hV h, SA_ex hV' h⟩
  have FT : Hid (fitL l ∧ fitL r) := ⟨hfl, hfr⟩
  obtain ⟨R, hR⟩ : ∃ R, R = eqT l r := ⟨_, rfl⟩
  have RR : Hid (R = eqT l r) := hR
  rw [← hR]
  clear hV hV' hfl hfr hR
  by_cases hn : len l = len r
  · have e1 : ((len l : Int) != (len r : Int)) = false := by simp [hn]
    have LE : Hid (len l = len r) := hn
    clear hn
    go_enter Tryz.func149, Tryz.ntmps149
    go_wp2_with fail
    go_loopw [7, 8, 9, 17] (fun _ _ _ i wr => ∃ (j : Nat), j ≤ len l ∧ i = .int .i64 j ∧ (∀ k, k < j → eqT (kid l k) (kid r k) = true) ∧ Ex w wr) (fun _ _ _ i _ => len l - (intOf i).toNat)
    case atStart => exact ⟨0, Nat.zero_le _, rfl, fun k hk => by omega, Ex.refl _⟩
    case round =>
      obtain ⟨j, hj, rfl, hall, hx⟩ := hrel
      have A : Hid (∀ k, k < j → eqT (kid l k) (kid r k) = true) := hall
      have E : Hid (Ex w wr) := hx
      clear hall hx
      by_cases hlt : j < len l
      · have hlr : j < len r := by have := LE.out; omega
        have hli : (j : Int) < (len r : Int) := by omega
        obtain ⟨b, o, rfl, _, hbs, hk⟩ := SA_at (V.out wr E.out).1 (by omega)
        obtain ⟨a1, c1, hc1, ht1⟩ := hk j hlt
        obtain ⟨b', o', rfl, _, hbs', hk'⟩ := SA_at (V.out wr E.out).2 (by omega)
        obtain ⟨a2, c2, hc2, ht2⟩ := hk' j hlr
        have TS : Hid (∀ w', Ex wr w' → Calls Tryz.prog 150 #[.agg #[.slice a1 (len (kid l j)) c1], .agg #[.slice a2 (len (kid r j)) c2]] w' fun e w'' => e = .returned (.bool (eqT (kid l j) (kid r j))) ∧ Ex w' w'') := fun w' h => typeSame_any 4 (kid l j) (kid r j) a1 a2 c1 c2 0 0 w' (FT.out.1 j hlt) (FT.out.2 j hlr) (SA_mono (SA_ex ht1 h) fun _ _ _ => Nat.zero_le _) (SA_mono (SA_ex ht2 h) fun _ _ _ => Nat.zero_le _)
        have BN : Hid (eqT (kid l j) (kid r j) = false → R = false) := fun h => RR.out.trans (eqT_bad l r j hlt h)
        have BY : Hid (eqT (kid l j) (kid r j) = true → ∀ k, k < j + 1 → eqT (kid l k) (kid r k) = true) := fun h k hk => by
          by_cases e : k = j
          · rw [e]; exact h
          · exact A.out k (by omega)
        obtain ⟨z, hz⟩ : ∃ z, eqT (kid l j) (kid r j) = z := ⟨_, rfl⟩
        rw [hz] at TS BN BY
        clear hk hk' ht1 ht2 hz
        go_wp2_with fail
        refine (TS.out _ ((Ex.new _ _).alloc _)).mono ?_
        rintro e w1 ⟨rfl, hb1⟩
        have X1 : Hid (Ex w w1) := E.out.trans (((Ex.new _ _).alloc _).trans hb1)
        clear hb1 TS hc1 hc2
        cases z with
        | false =>
          have HR : Hid (R = false) := BN.out rfl
          go_wp2_with fail
          go_ret
          exact ⟨ret_b HR.out.symm, X1.out⟩
        | true =>
          have HB : Hid _ := BY.out rfl
          go_wp2_with fail
          go_roundw
          case rel => exact ⟨j + 1, by omega, by go_num, HB.out, X1.out⟩
          case measure => simp [intOf]; omega
      · have HR : Hid (R = true) := RR.out.trans (eqT_good l r LE.out fun i hi => A.out i (by omega))
        go_wp2_with fail
        go_ret
        exact ⟨ret_b HR.out.symm, E.out⟩
  · have e1 : ((len l : Int) != (len r : Int)) = true := by
      rw [bne_iff_ne]; omega
    have HR : Hid (R = false) := RR.out.trans (eqT_len l r hn)
    clear hn
    go_enter Tryz.func149, Tryz.ntmps149
    go_wp2_with fail
    go_ret
    exact ⟨ret_b HR.out.symm, Ex.refl _⟩

end Go.Proofs.YtgpdnoghlommeaaGreatDoor

namespace Go.Proofs.YtgpdnoghlommeaaGreatDoor

open Go.RowKit Go.Deep Go.Maps Go.WideMaps

open Go.ChangeMaps

/-- A block is a map whose entries hold rows of types that are good for their texts. -/
def MM (w : World) (S : Nat → Prop) (mb : Nat) (G : List UInt8 → F → Prop) : Prop := ∃ es cl, w.heap[mb]? = some (.map es cl) ∧
  ∀ x ∈ es.toList, ∃ (s : ByteArray) (r : F) (a : Option Addr) (c : Nat), x.key = .string s ∧ s.size ≤ 9223372036854775807 ∧ x.val = .slice a (len r) c ∧ SA w S r a ∧ G s.data.toList r
theorem MM_made (w : World) (S : Nat → Prop) (G : List UInt8 → F → Prop) : MM (w.alloc (.map #[] 0)) S w.heap.size G := ⟨#[], 0, (MapKept.heap_alloc w _).1, fun x hx => by simp at hx⟩
theorem MM.lt {w : World} {S : Nat → Prop} {mb : Nat} {G : List UInt8 → F → Prop} (h : MM w S mb G) : mb < w.heap.size := by
  obtain ⟨es, cl, h1, _⟩ := h
  exact (Array.getElem?_eq_some_iff.1 h1).1
theorem MM.frs {w w' : World} {S T : Nat → Prop} {mb : Nat} {G : List UInt8 → F → Prop} (h : MM w S mb G) (hk : ∀ b, b < w.heap.size → ¬ T b → w'.heap[b]? = w.heap[b]?) (hB : ¬ T mb) (hS : ∀ b, S b → ¬ T b) : MM w' S mb G := by
  have hl := h.lt
  obtain ⟨es, cl, h1, h2⟩ := h
  refine ⟨es, cl, (hk mb hl hB).trans h1, fun x hx => ?_⟩
  obtain ⟨s, r, a, c, e1, e2, e3, hV, hG⟩ := h2 x hx
  exact ⟨s, r, a, c, e1, e2, e3, SA_ks hV fun b hs hlt => hk b hlt (hS b hs), hG⟩
theorem MM.fr {w w' : World} {S : Nat → Prop} {B mb : Nat} {G : List UInt8 → F → Prop} (h : MM w S mb G) (hf : Fr B w w') (hB : B ≠ mb) (hS : ¬ S B) : MM w' S mb G :=
  h.frs (T := fun b => b = B) (fun b hb hn => hf.block b hb hn) (fun e => hB e.symm) fun _ hs e => hS (e ▸ hs)
theorem MM.ex {w w' : World} {S : Nat → Prop} {mb : Nat} {G : List UInt8 → F → Prop} (h : MM w S mb G) (hx : Ex w w') : MM w' S mb G :=
  h.frs (T := fun _ => False) (fun b hb _ => hx.block b hb) (fun e => e) fun _ _ e => e
theorem MM.mono {w : World} {S S' : Nat → Prop} {mb : Nat} {G : List UInt8 → F → Prop} (h : MM w S mb G) (hs : ∀ b, b < w.heap.size → S b → S' b) : MM w S' mb G := by
  obtain ⟨es, cl, h1, h2⟩ := h
  refine ⟨es, cl, h1, fun x hx => ?_⟩
  obtain ⟨s, r, a, c, e1, e2, e3, hV, hG⟩ := h2 x hx
  exact ⟨s, r, a, c, e1, e2, e3, SA_mono hV hs, hG⟩
theorem MM.ne {w : World} {S : Nat → Prop} {mb : Nat} {G : List UInt8 → F → Prop} (h : MM w S mb G) {p : Addr} {v : Value} (hc : w.cell? p = some v) : p.block ≠ mb := by
  obtain ⟨es, cl, h1, _⟩ := h
  intro e
  simp [World.cell?, e, h1] at hc
theorem MM.keys {w : World} {S : Nat → Prop} {G : List UInt8 → F → Prop} {es : Array MapEntry} (h2 : ∀ x ∈ es.toList, ∃ (s : ByteArray) (r : F) (a : Option Addr) (c : Nat), x.key = .string s ∧ s.size ≤ 9223372036854775807 ∧ x.val = .slice a (len r) c ∧ SA w S r a ∧ G s.data.toList r) : ∀ e ∈ es.toList, ∃ l, keyOf Tryz.prog 9 e.key = some l := fun e he => by
  obtain ⟨s, _, _, _, e1, e2, _⟩ := h2 e he
  exact ⟨_, by rw [e1]; exact key_string e2⟩
/-- A text asked for. -/
theorem MM.look {w : World} {S : Nat → Prop} {mb : Nat} {G : List UInt8 → F → Prop} (h : MM w S mb G) {s : ByteArray} (hs : s.size ≤ 9223372036854775807) :
    ∃ v ok, (Instr.lookup 110 (.map (some mb)) (.string s) true).run Tryz.prog w = .ok (.tuple #[v, .bool ok]) w ∧ (ok = true → ∃ r a c, v = .slice a (len r) c ∧ SA w S r a ∧ G s.data.toList r) := by
  obtain ⟨es, cl, h1, h2⟩ := h
  rcases Tryz.keyed.find w (key_string hs) es.toList (MM.keys h2) with ⟨hf, _⟩ | ⟨j, e0, hf, hj, hk⟩
  · refine ⟨.slice none 0 0, false, ?_, fun h => (by cases h)⟩
    simp [Instr.lookup, run_underlying Tryz.underlying110, MapKept.run_getObj_map h1, Tryz.keyed.check w es.isEmpty (key_string hs), hf, Result.andThen]
  · refine ⟨e0.val, true, ?_, fun _ => ?_⟩
    · simp [Instr.lookup, run_underlying Tryz.underlying110, MapKept.run_getObj_map h1, Tryz.keyed.check w es.isEmpty (key_string hs), hf, Result.andThen]
    · obtain ⟨s', r, a, c, e1, e2, e3, hV, hG⟩ := h2 e0 (List.mem_of_getElem? hj)
      rw [hk] at e1
      injection e1 with e1
      subst e1
      exact ⟨r, a, c, e3, hV, hG⟩

set_option maxRecDepth 100000 in
/-- A text told: an operation of an ordered list. -/
theorem wpList_tell {w : World} {ops : Array Oper} {rest : List Oper} {o : Oper} {a : Act} {Q : Exit → Act → World → Prop} (hg : o.guard = none) (m x v : Operand) (hop : o.op = Op.mapUpdate 110 m x v)
    (S : Nat → Prop) (mb : Nat) (G : List UInt8 → F → Prop) (s : ByteArray) (hs : s.size ≤ 9223372036854775807) (hm : a.eval m = .map (some mb)) (hC : MM w S mb G) (hS : ¬ S mb) (hx : a.eval x = .string s)
    (f : F) (ad : Option Addr) (c : Nat) (hv : a.eval v = .slice ad (len f) c) (hV : SA w S f ad) (hG : G s.data.toList f)
    (hK : ∀ w', MM w' S mb G → Fr mb w w' → wpList Tryz.prog ops Q rest (a.put o.dst undef) w') : wpList Tryz.prog ops Q (o :: rest) a w := by
  obtain ⟨es, cl, h1, h2⟩ := hC
  have key : ∃ w', (Instr.mapUpdate 110 (.map (some mb)) (.string s) (.slice ad (len f) c)).run Tryz.prog w = .ok () w' ∧ MM w' S mb G ∧ Fr mb w w' := by
    have fr : ∀ es' cl', Fr mb w (setBlock w mb (.map es' cl')) := fun es' cl' => ⟨rfl, rfl, rfl, by simp [setBlock], fun i _ hi => heap_setBlock_other h1 _ hi⟩
    have mk : ∀ es' cl', (∀ x ∈ es'.toList, x ∈ es.toList ∨ (x.key = .string s ∧ x.val = .slice ad (len f) c)) → MM (setBlock w mb (.map es' cl')) S mb G := fun es' cl' hes => by
      refine ⟨es', cl', heap_setBlock_same h1 _, fun x hx => ?_⟩
      have mv : ∀ (k : F) (a : Option Addr), SA w S k a → SA (setBlock w mb (.map es' cl')) S k a := fun k a hk => SA_ks hk fun b hb hlt => (fr es' cl').block b hlt fun e => hS (e ▸ hb)
      rcases hes x hx with hx | ⟨e1, e2⟩
      · obtain ⟨s', r, a', c', e1, e2, e3, hV', hG'⟩ := h2 x hx
        exact ⟨s', r, a', c', e1, e2, e3, mv _ _ hV', hG'⟩
      · exact ⟨s, f, ad, c, e1, hs, e2, mv _ _ hV, hG⟩
    rcases Tryz.keyed.find w (key_string hs) es.toList (MM.keys h2) with ⟨hf, _⟩ | ⟨j, e0, hf, hj, hk⟩
    · refine ⟨setBlock w mb (.map (es.push ⟨.string s, .slice ad (len f) c, cl⟩) (cl + 1)), ?_, mk _ _ fun x hx => ?_, fr _ _⟩
      · simp [Instr.mapUpdate, run_underlying Tryz.underlying110, MapKept.run_getObj_map h1, Tryz.keyed.check w false (key_string hs), hf, MapKept.run_setObj_map _ h1, Result.andThen, setBlock]
      · simp only [Array.toList_push, List.mem_append, List.mem_singleton] at hx
        rcases hx with hx | rfl
        · exact Or.inl hx
        · exact Or.inr ⟨rfl, rfl⟩
    · have hj' : es[j]? = some e0 := by simpa using hj
      have hlist : (es.modify j (fun e' => { e' with key := .string s, val := .slice ad (len f) c })).toList = es.toList.set j { e0 with key := .string s, val := .slice ad (len f) c } := by rw [Array.toList_modify, modify_eq_set _ _ _ _ hj]
      refine ⟨setBlock w mb (.map (es.modify j (fun e' => { e' with key := .string s, val := .slice ad (len f) c })) cl), ?_, mk _ _ fun x hx => ?_, fr _ _⟩
      · simp [Instr.mapUpdate, run_underlying Tryz.underlying110, MapKept.run_getObj_map h1, Tryz.keyed.check w false (key_string hs), hf, hj', hk, Tryz.keyed.stays w (key_string hs), MapKept.run_setObj_map _ h1, Result.andThen, setBlock]
      · rw [hlist] at hx
        rcases List.mem_or_eq_of_mem_set hx with hx | rfl
        · exact Or.inl hx
        · exact Or.inr ⟨rfl, rfl⟩
  obtain ⟨w', hrun, k1, k2⟩ := key
  refine wpList_plain hg fun K' hK' => ?_
  unfold Oper.wp
  simp [execOp, hop, hm, hx, hv, hrun, Result.andThen]
  exact hK' _ _ (hK w' k1 k2)

end Go.Proofs.YtgpdnoghlommeaaGreatDoor

namespace Go.Proofs.YtgpdnoghlommeaaGreatDoor

open Go.RowKit Go.Deep Go.Maps Go.WideMaps

attribute [local go_sem ↓] Go.wp_at_zero Go.wp_at_succ

/-- A function is ok behind those ahead, as the program asks it. -/
def chkB (fs : List PM) (g : PM) : Bool := !(arityR fs g.name).2.2 && (wordB g.name && (namesB g.params && bodyB fs 6 g.params g.binds g.says))
theorem chk_pure (l : List PM) (i : Nat) : chkB (l.take i) (l.getD i pm0) = pureAt l i := by
  simp only [chkB, pureAt, namesB]
  cases (arityR (l.take i) (l.getD i pm0).name).2.2 <;> cases wordB (l.getD i pm0).name <;> cases decide ((l.getD i pm0).params.length ≤ 60) <;> cases uniqB (l.getD i pm0).params <;> cases bodyB (l.take i) 6 (l.getD i pm0).params (l.getD i pm0).binds (l.getD i pm0).says <;> rfl
theorem QA_take {w : World} {lo : Nat} {l : List PM} {a : Option Addr} (h : QA w lo l a) (j : Nat) (hj : j ≤ l.length) : QA w lo (l.take j) a ∧ (l.take j).length = j := by
  have hl : (l.take j).length = j := by rw [List.length_take]; omega
  refine ⟨?_, hl⟩
  rcases h with h | ⟨b, o, e, hb, hc⟩
  · exact Or.inl (by omega)
  · refine Or.inr ⟨b, o, e, hb, fun i hi => ?_⟩
    have := hc i (by omega)
    simp only [List.getD] at this ⊢
    rw [List.getElem?_take_of_lt (by omega)]
    exact this
theorem pureAt_params {l : List PM} {i : Nat} (h : pureAt l i = true) : (l.getD i pm0).params.length ≤ 60 := by
  simp only [pureAt, Bool.and_eq_true, decide_eq_true_eq] at h
  exact h.2.2.1
theorem arity_60 {l : List PM} {j : Nat} (h : ∀ k, k < j → pureAt l k = true) (s : ByteArray) : (arityR (l.take j) s).1 ≤ 60 := by
  simp only [arityR]
  cases hf : (l.take j).find? (fun f => f.name.toList == s.toList) with
  | none => simp
  | some g =>
    have hm := List.mem_of_find?_eq_some hf
    obtain ⟨i, hi, rfl⟩ := List.getElem_of_mem hm
    rw [List.length_take] at hi
    have := pureAt_params (h i (by omega))
    simp only [List.getD, List.getElem?_eq_getElem (show i < l.length by omega), Option.getD_some] at this
    simp only [List.getElem_take]
    exact this

set_option maxRecDepth 100000 in
set_option maxHeartbeats 4000000 in
theorem checkPure_any (ea : Addr) (fs : List PM) (la : Option Addr) (lc : Nat) (hl : fs.length ≤ 1000000000) (h60 : ∀ s, (arityR fs s).1 ≤ 60) (gn : ByteArray) (gp : List ByteArray) (a1 : Option Addr) (k1 : Nat) (gb : BD) (a2 : Option Addr) (k2 : Nat) (gs : TM) (a3 : Option Addr) (k3 : Nat) (w : World)
    (hz : XLm gp) (hb : blen gb ≤ 1000000000) (hbm : BSm gb) (hbl : BLm gb) (hs : tlen gs ≤ 1000000000) (hsm : TSm gs) (hsl : TLm gs) (hG : w.cell? ⟨0, 0, none⟩ = some (EV ea)) (hQ : QA w 0 fs la) (hX : XA w 0 gp a1) (hB : BA w 0 gb a2) (hM : MA w 0 gs a3) :
    Calls Tryz.prog 82 #[.slice la fs.length lc, .agg #[.string gn, .slice a1 gp.length k1, .slice a2 (blen gb) k2, .slice a3 (tlen gs) k3]] w (ErrP ea (chkB fs ⟨gn, gp, gb, gs⟩) w) := by
  have G : Hid (∀ w', Ex w w' → w'.cell? ⟨0, 0, none⟩ = some (EV ea)) := fun w' h => h.at hG
  have X : Hid (∀ w', Ex w w' → XA w' 0 gp a1) := fun _ h => XA_below hX h
  have XF : Hid (∀ w1 w2 mb, Ex w w1 → w.heap.size ≤ mb → Fr mb w1 w2 → XA w2 0 gp a1) := fun w1 w2 mb h1 hm h2 => XA_below hX (h2.to_ex h1 hm)
  have QQ : Hid (∀ w', Ex w w' → QA w' 0 fs la) := fun _ h => QA_below hQ h
  have BY : Hid (∀ w' mb, Ex w w' → gp.length ≤ 60 → CM w' mb gp.length gp → Calls Tryz.prog 113 #[.agg #[.slice la fs.length lc, .map (some mb)], .agg #[.slice a2 (blen gb) k2, .slice a3 (tlen gs) k3], .int .i64 6] w' (ErrP ea (bodyB fs 6 gp gb gs) w')) := fun w' mb h hp hc => body_any ea fs la lc hl h60 6 mb gp gb a2 k2 gs a3 k3 w' (by omega) (by omega) hb hbm hbl hs hsm hsl (h.at hG) hc (QA_below hQ h) (BA_below hB h) (MA_below hM h)
  have ZP : Hid (XLm gp) := hz
  have N : Hid (Ex w (w.alloc (.cells #[.string gn, .slice a1 gp.length k1, .slice a2 (blen gb) k2, .slice a3 (tlen gs) k3] 61))) := Ex.new _ _
  have C : Hid (∀ w', Ex (w.alloc (.cells #[.string gn, .slice a1 gp.length k1, .slice a2 (blen gb) k2, .slice a3 (tlen gs) k3] 61)) w' → w'.cell? ⟨w.heap.size, 0, none⟩ = some (.string gn) ∧ w'.cell? ⟨w.heap.size, 1, none⟩ = some (.slice a1 gp.length k1) ∧ w'.cell? ⟨w.heap.size, 2, none⟩ = some (.slice a2 (blen gb) k2) ∧ w'.cell? ⟨w.heap.size, 3, none⟩ = some (.slice a3 (tlen gs) k3)) := fun w' h => ⟨h.at (by simp), h.at (by simp), h.at (by simp), h.at (by simp)⟩
  obtain ⟨R, hR⟩ : ∃ R, R = chkB fs ⟨gn, gp, gb, gs⟩ := ⟨_, rfl⟩
  have RR : Hid (R = (!(arityR fs gn).2.2 && (wordB gn && (namesB gp && bodyB fs 6 gp gb gs)))) := hR
  rw [← hR]
  obtain ⟨bn, hbn⟩ : ∃ b, namesB gp = b := ⟨_, rfl⟩
  have L60 : Hid (bn = true → gp.length ≤ 60) := fun h => by rw [← hbn] at h; simp only [namesB, Bool.and_eq_true, decide_eq_true_eq] at h; exact h.1
  have NO : Hid (∀ w', Ex w w' → Calls Tryz.prog 111 #[.slice a1 gp.length k1] w' fun e w'' => e = .returned (.bool bn) ∧ Ex w' w'') := fun w' h => by have := namesOk_any gp a1 k1 w' ZP.out (X.out w' h); rw [hbn] at this; exact this
  rw [hbn] at RR
  have hmm := @run_makeMap Tryz.prog
  clear hR hbn hz hb hbm hbl hs hsm hsl hG hQ hX hB hM h60 X
  go_enter Tryz.func82, Tryz.ntmps82
  go_wp2_with fail
  refine (named_any fs la lc gn _ hl (QQ.out _ N.out)).mono ?_
  rintro e w1 ⟨qn, q1, np, j1, q2, nb, j2, q3, nz, j3, ok, rfl, hg, hb1⟩
  have R1 : Hid (R = (!ok && (wordB gn && (bn && bodyB fs 6 gp gb gs)))) := RR.out.trans (by rw [hg])
  have X1 : Hid (Ex (w.alloc (.cells #[.string gn, .slice a1 gp.length k1, .slice a2 (blen gb) k2, .slice a3 (tlen gs) k3] 61)) (w1.alloc (.cells #[.string qn, .slice q1 np j1, .slice q2 nb j2, .slice q3 nz j3] 61))) := hb1.alloc _
  obtain ⟨c0, c1, c2, c3⟩ := C.out w1 hb1
  have z1 : w.heap.size < w1.heap.size := World.block_lt_of_cell? _ _ c0
  have g1 := G.out _ (N.out.trans X1.out)
  have gz : 0 < w1.heap.size := by omega
  have g0 := G.out w1 (N.out.trans hb1)
  clear hg hb1 RR
  cases ok with
  | true =>
    have HR : Hid (R = false) := R1.out
    go_wp2_with fail
    go_ret
    exact ⟨by rw [HR.out]; rfl, N.out.trans X1.out⟩
  | false =>
    go_wp2_with fail
    refine (nameOk_any gn _).mono ?_
    rintro e w2 ⟨rfl, hb2⟩
    have X2 : Hid (Ex (w.alloc (.cells #[.string gn, .slice a1 gp.length k1, .slice a2 (blen gb) k2, .slice a3 (tlen gs) k3] 61)) w2) := X1.out.trans hb2
    clear c0 c1 c2 c3 g0 g1 hb2 z1 gz
    obtain ⟨c0, c1, c2, c3⟩ := C.out w2 X2.out
    have g0 := G.out w2 (N.out.trans X2.out)
    cases hw : wordB gn with
    | false =>
      have HR : Hid (R = false) := R1.out.trans (by rw [hw]; rfl)
      clear hw
      go_wp2_with fail
      go_ret
      exact ⟨by rw [HR.out]; rfl, N.out.trans X2.out⟩
    | true =>
      have R2 : Hid (R = (bn && bodyB fs 6 gp gb gs)) := R1.out.trans (by rw [hw]; rfl)
      clear hw R1
      go_wp2_with fail
      refine (NO.out _ (N.out.trans X2.out)).mono ?_
      rintro e w3 ⟨rfl, hb3⟩
      have X3 : Hid (Ex (w.alloc (.cells #[.string gn, .slice a1 gp.length k1, .slice a2 (blen gb) k2, .slice a3 (tlen gs) k3] 61)) w3) := X2.out.trans hb3
      clear c0 c1 c2 c3 g0 hb3
      obtain ⟨c0, c1, c2, c3⟩ := C.out w3 X3.out
      have z3 : w.heap.size < w3.heap.size := World.block_lt_of_cell? _ _ c0
      have g0 := G.out w3 (N.out.trans X3.out)
      cases bn with
      | false =>
        have HR : Hid (R = false) := R2.out
        go_wp2_with fail
        go_ret
        exact ⟨by rw [HR.out]; rfl, N.out.trans X3.out⟩
      | true =>
        have h6 : gp.length ≤ 60 := L60.out (by first | trivial | rfl)
        have HR : Hid (R = bodyB fs 6 gp gb gs) := R2.out.trans (by first | rfl | simp)
        have BI : Hid (∀ w', Ex (w3.alloc (.map #[] 0)) w' → Calls Tryz.prog 112 #[.agg #[.slice la fs.length lc, .map (some w3.heap.size)], .slice a1 gp.length k1] w' (BindP w3.heap.size 0 [] gp w')) := fun w' h =>
          bind_any la fs.length lc w3.heap.size 0 [] gp a1 k1 w' ((CM_made w3).ex h) (fun w2 h2 => XF.out w' w2 _ (N.out.trans (X3.out.trans ((Ex.new _ _).trans h))) (by omega) h2) ZP.out (by omega) (by simp; omega)
        clear R2 L60 NO
        go_wp2_with fail
        refine Calls.mono (BI.out _ (Ex.new _ _)) ?_
        rintro e w4 ⟨rfl, hc4, hf4⟩
        have X4 : Hid (Ex (w.alloc (.cells #[.string gn, .slice a1 gp.length k1, .slice a2 (blen gb) k2, .slice a3 (tlen gs) k3] 61)) w4) := hf4.to_ex (X3.out.trans ((Ex.new _ _).alloc _)) (by rw [World.size_alloc]; omega)
        have hc5 : CM w4 w3.heap.size gp.length gp := by rw [Nat.zero_add, List.nil_append] at hc4; exact hc4
        have C5 : Hid _ := hc5
        have ci0 : w4.cell? ⟨w3.heap.size + 1, 0, none⟩ = some (.slice la fs.length lc) := hf4.at (by show w3.heap.size + 1 ≠ w3.heap.size; omega) (by simp)
        have ci1 : w4.cell? ⟨w3.heap.size + 1, 1, none⟩ = some (.map (some w3.heap.size)) := hf4.at (by show w3.heap.size + 1 ≠ w3.heap.size; omega) (by simp)
        clear hc4 hf4 hc5 c0 c1 c2 c3 BI hmm g0
        obtain ⟨c0, c1, c2, c3⟩ := C.out w4 X4.out
        go_wp2_with fail
        refine Calls.mono (BY.out _ _ (N.out.trans X4.out) h6 C5.out) ?_
        rintro e w5 ⟨rfl, hb5⟩
        go_wp2_with fail
        go_ret
        exact ⟨by rw [HR.out]; rfl, N.out.trans (X4.out.trans hb5)⟩

set_option maxRecDepth 100000 in
set_option maxHeartbeats 4000000 in
theorem checkPures_any (ea : Addr) (l : List PM) (a : Option Addr) (c : Nat) (w : World) (hl : l.length ≤ 1000000000) (hcap : l.length ≤ c) (hs : PSkTo l l.length) (hlm : ∀ j, j < l.length → PLm (l.getD j pm0)) (hG : w.cell? ⟨0, 0, none⟩ = some (EV ea)) (hQ : QA w 0 l a) :
    Calls Tryz.prog 57 #[.slice a l.length c] w (ErrP ea (pureB l) w) := by
  have G : Hid (∀ w', Ex w w' → w'.cell? ⟨0, 0, none⟩ = some (EV ea)) := fun w' h => h.at hG
  have Q : Hid (∀ w', Ex w w' → QA w' 0 l a) := fun _ h => QA_below hQ h
  have SK : Hid _ := hs
  have LM : Hid _ := hlm
  obtain ⟨R, hR⟩ : ∃ R, R = pureB l := ⟨_, rfl⟩
  have RR : Hid (R = pureB l) := hR
  rw [← hR]
  have g0 := hG
  clear hG hQ hs hlm hR
  by_cases h10 : 10 < l.length
  · have HR : Hid (R = false) := RR.out.trans (pureB_len h10)
    have e1 : decide ((10 : Int) < (l.length : Int)) = true := decide_eq_true (by omega)
    go_enter Tryz.func57, Tryz.ntmps57
    go_wp2_with fail
    go_ret
    exact ⟨by rw [HR.out]; rfl, Ex.refl _⟩
  have e1 : decide ((10 : Int) < (l.length : Int)) = false := decide_eq_false (by omega)
  clear g0
  go_enter Tryz.func57, Tryz.ntmps57
  go_wp2_with fail
  go_loopw [3, 4, 5, 12] (fun _ _ _ i wr => ∃ (j : Nat), j ≤ l.length ∧ i = .int .i64 j ∧ (∀ k, k < j → pureAt l k = true) ∧ Ex w wr) (fun _ _ _ i _ => l.length - (intOf i).toNat)
  case atStart => exact ⟨0, by omega, rfl, fun j hj => by omega, Ex.refl _⟩
  case round =>
    obtain ⟨j, hj, rfl, hall, hx⟩ := hrel
    have A : Hid (∀ k, k < j → pureAt l k = true) := hall
    have E : Hid (Ex w wr) := hx
    clear hall hx
    by_cases hlt : j < l.length
    · obtain ⟨b, o, rfl, _, hbs, hk⟩ := QA_at (Q.out wr E.out) (by omega)
      obtain ⟨b0, ⟨a1, k1, b1, hnc, x1⟩, ⟨a2, k2, b2, x2⟩, ⟨a3, k3, b3, x3⟩⟩ := hk j hlt
      obtain ⟨s1, ⟨s2, s3⟩, s4, s5⟩ := SK.out j hlt
      obtain ⟨l1, l2, l3, l4, l5, l6, l7⟩ := LM.out j hlt
      have U : Hid (pureAt l j = true → ∀ k, k < j + 1 → pureAt l k = true) := fun h => upto_succ A.out h
      have V : Hid (pureAt l j = false → R = false) := fun h => RR.out.trans (pureB_no hlt h)
      have HC : Hid (∀ w', Ex wr w' → Calls Tryz.prog 82 #[.slice (some ⟨b, o, none⟩) j c, .agg #[.string (l.getD j pm0).name, .slice a1 (l.getD j pm0).params.length k1, .slice a2 (blen (l.getD j pm0).binds) k2, .slice a3 (tlen (l.getD j pm0).says) k3]] w' (ErrP ea (pureAt l j) w')) := fun w' h => by
        have hq := QA_take (Q.out w' (E.out.trans h)) j hj
        have := checkPure_any ea (l.take j) (some ⟨b, o, none⟩) c (by omega) (arity_60 A.out) (l.getD j pm0).name (l.getD j pm0).params a1 k1 (l.getD j pm0).binds a2 k2 (l.getD j pm0).says a3 k3 w' l3 (by omega) s3 l5 (by omega) s5 l7 (G.out w' (E.out.trans h)) hq.1 (XA_below x1 h) (BA_below x2 h) (MA_below x3 h)
        rw [hq.2] at this
        have e := chk_pure l j
        rw [show (⟨(l.getD j pm0).name, (l.getD j pm0).params, (l.getD j pm0).binds, (l.getD j pm0).says⟩ : PM) = l.getD j pm0 from rfl, e] at this
        exact this
      obtain ⟨r, hr⟩ : ∃ r, pureAt l j = r := ⟨_, rfl⟩
      rw [hr] at U V HC
      obtain ⟨g, hg⟩ : ∃ g, l.getD j pm0 = g := ⟨_, rfl⟩
      rw [hg] at b0 b1 b2 b3 HC
      clear hk hg hr x1 x2 x3 s1 s2 s3 s4 s5 l1 l2 l3 l4 l5 l6 l7
      obtain ⟨gn, gp, gb, gs⟩ := g
      dsimp only at b0 b1 b2 b3 HC
      have hjc : j ≤ c := by omega
      have KS : Hid (∀ w', Ex (wr.alloc (.cells #[.string gn, .slice a1 gp.length k1, .slice a2 (blen gb) k2, .slice a3 (tlen gs) k3] 61)) w' → (Ex (wr.alloc (.cells #[.string gn, .slice a1 gp.length k1, .slice a2 (blen gb) k2, .slice a3 (tlen gs) k3] 61)) w' ∧ w'.cell? ⟨wr.heap.size, 0, none⟩ = some (.string gn) ∧ w'.cell? ⟨wr.heap.size, 1, none⟩ = some (.slice a1 gp.length k1) ∧ w'.cell? ⟨wr.heap.size, 2, none⟩ = some (.slice a2 (blen gb) k2) ∧ w'.cell? ⟨wr.heap.size, 3, none⟩ = some (.slice a3 (tlen gs) k3))) := fun w' h => ⟨h, h.at (by simp), h.at (by simp), h.at (by simp), h.at (by simp)⟩
      go_wp2_with fail
      clear b0 b1 b2 b3
      refine wp_region_held_drew (S := fun w' => Ex (wr.alloc (.cells #[.string gn, .slice a1 gp.length k1, .slice a2 (blen gb) k2, .slice a3 (tlen gs) k3] 61)) w' ∧ w'.cell? ⟨wr.heap.size, 0, none⟩ = some (.string gn) ∧ w'.cell? ⟨wr.heap.size, 1, none⟩ = some (.slice a1 gp.length k1) ∧ w'.cell? ⟨wr.heap.size, 2, none⟩ = some (.slice a2 (blen gb) k2) ∧ w'.cell? ⟨wr.heap.size, 3, none⟩ = some (.slice a3 (tlen gs) k3)) (by kernel_rfl) (KS.out _ (Ex.refl _).drew) (fun hHeld => ?_)
      refine wpAnyH_take (i := 0) (v := ?_) rfl (by kernel_rfl) (by kernel_rfl) (by kernel_rfl) (fun _ _ _ h => h) (Or.inl ⟨by rfl, ?_⟩) (by assumption) ?_
      rotate_left
      · (intro w' hSw; (try dsimp only at hSw); go_simp) <;> with_reducible rfl
      change wpAnyH Tryz.prog _ _ _ _ _ _ (Act.put _ (some 17) _) _
      (try simp only [Act.put, List.setIfInBounds_toArray, List.set_cons_zero, List.set_cons_succ])
      refine wpAnyH_take (i := 1) (v := ?_) rfl (by kernel_rfl) (by kernel_rfl) (by kernel_rfl) (fun _ _ _ h => h) (Or.inl ⟨by rfl, ?_⟩) (by assumption) ?_
      rotate_left
      · (intro w' hSw; (try dsimp only at hSw); go_simp) <;> with_reducible rfl
      change wpAnyH Tryz.prog _ _ _ _ _ _ (Act.put _ (some 18) _) _
      (try simp only [Act.put, List.setIfInBounds_toArray, List.set_cons_zero, List.set_cons_succ])
      refine wpAnyH_take (i := 2) (v := ?_) rfl (by kernel_rfl) (by kernel_rfl) (by kernel_rfl) (fun _ _ _ h => h) (Or.inl ⟨by rfl, ?_⟩) (by assumption) ?_
      rotate_left
      · (intro w' hSw; (try dsimp only at hSw); go_simp) <;> with_reducible rfl
      change wpAnyH Tryz.prog _ _ _ _ _ _ (Act.put _ (some 19) _) _
      (try simp only [Act.put, List.setIfInBounds_toArray, List.set_cons_zero, List.set_cons_succ])
      refine wpAnyH_take (i := 3) (v := ?_) rfl (by kernel_rfl) (by kernel_rfl) (by kernel_rfl) (fun _ _ _ h => h) (Or.inl ⟨by rfl, ?_⟩) (by assumption) ?_
      rotate_left
      · (intro w' hSw; (try dsimp only at hSw); go_simp) <;> with_reducible rfl
      change wpAnyH Tryz.prog _ _ _ _ _ _ (Act.put _ (some 20) _) _
      (try simp only [Act.put, List.setIfInBounds_toArray, List.set_cons_zero, List.set_cons_succ])
      refine wpAnyH_ready (rs := [4]) (by kernel_rfl) (by simp) ?_
      refine AllReadyH.cons (i := 4) rfl (fun K hK => ?_) AllReadyH.nil
      go_simp
      refine Calls.mono (HC.out _ ((Ex.new _ _).trans hHeld.1)) ?_
      rintro e w2 ⟨rfl, hb2⟩
      have hx2 := Ex.trans (And.left hHeld) hb2
      clear hHeld
      cases r with
      | false =>
        have HR : Hid (R = false) := V.out rfl
        clear U V HC
        simp only [errV, Bool.false_eq_true, if_false]
        go_wp2_with fail
        refine hK.out _ _ ?_ (fun hHeld => ?_)
        · exact KS.out _ hx2
        clear hK
        (try simp only [Act.put, List.setIfInBounds_toArray, List.set_cons_zero, List.set_cons_succ])
        refine wpAnyH_take (i := 5) (v := ?_) rfl (by kernel_rfl) (by kernel_rfl) (by kernel_rfl) (fun _ _ _ h => h) (Or.inl ⟨by rfl, ?_⟩) (by assumption) ?_
        rotate_left
        · (intro w' hSw; (try dsimp only at hSw); go_simp) <;> with_reducible rfl
        change wpAnyH Tryz.prog _ _ _ _ _ _ (Act.put _ (some 5) _) _
        (try simp only [Act.put, List.setIfInBounds_toArray, List.set_cons_zero, List.set_cons_succ])
        refine wpAnyH_done (by kernel_rfl) ?_ _
        go_wp2_with fail
        go_ret
        exact ⟨by rw [HR.out]; rfl, E.out.trans ((Ex.new _ _).trans hHeld.1)⟩
      | true =>
        have HU : Hid _ := U.out rfl
        clear U V HC
        simp only [errV, if_true]
        go_wp2_with fail
        refine hK.out _ _ ?_ (fun hHeld => ?_)
        · exact KS.out _ hx2
        clear hK
        (try simp only [Act.put, List.setIfInBounds_toArray, List.set_cons_zero, List.set_cons_succ])
        refine wpAnyH_take (i := 5) (v := ?_) rfl (by kernel_rfl) (by kernel_rfl) (by kernel_rfl) (fun _ _ _ h => h) (Or.inl ⟨by rfl, ?_⟩) (by assumption) ?_
        rotate_left
        · (intro w' hSw; (try dsimp only at hSw); go_simp) <;> with_reducible rfl
        change wpAnyH Tryz.prog _ _ _ _ _ _ (Act.put _ (some 5) _) _
        (try simp only [Act.put, List.setIfInBounds_toArray, List.set_cons_zero, List.set_cons_succ])
        refine wpAnyH_done (by kernel_rfl) ?_ _
        go_wp2_with fail
        go_roundw
        case rel => exact ⟨j + 1, by omega, by go_num, HU.out, E.out.trans ((Ex.new _ _).trans hHeld.1)⟩
        case measure => simp [intOf]; omega
    · have HR : Hid (R = true) := RR.out.trans (pureB_yes (by omega) fun i hi => A.out i (by omega))
      go_wp2_with fail
      go_ret
      exact ⟨by rw [HR.out]; rfl, E.out⟩

set_option maxRecDepth 100000 in
set_option maxHeartbeats 4000000 in
theorem iPureOk_any (ea : Addr) (l : List PM) (a : Option Addr) (c : Nat) (w : World) (hl : l.length ≤ 1000000000) (hcap : l.length ≤ c) (hs : PSkTo l l.length) (hlm : ∀ j, j < l.length → PLm (l.getD j pm0)) (hG : w.cell? ⟨0, 0, none⟩ = some (EV ea)) (hQ : QA w 0 l a) :
    Calls Tryz.prog 41 #[.slice a l.length c] w fun e w' => e = .returned (.bool (pureB l)) ∧ Ex w w' := by
  have CP : Hid (∀ w', Ex w w' → Calls Tryz.prog 57 #[.slice a l.length c] w' (ErrP ea (pureB l) w')) := fun w' h => checkPures_any ea l a c w' hl hcap hs hlm (h.at hG) (QA_below hQ h)
  have KS : Hid (∀ w', Ex w w' → (Ex w w' ∧ w'.cell? ⟨0, 0, none⟩ = some (EV ea))) := fun w' h => ⟨h, h.at hG⟩
  obtain ⟨R, hR⟩ : ∃ R, R = pureB l := ⟨_, rfl⟩
  rw [← hR] at CP ⊢
  clear hG hQ hs hlm hR hl hcap
  go_enter Tryz.func41, Tryz.ntmps41
  go_wp2_with fail
  refine wp_region_held_drew (S := fun w' => Ex w w' ∧ w'.cell? ⟨0, 0, none⟩ = some (EV ea)) (by kernel_rfl) (KS.out _ (Ex.refl _).drew) (fun hHeld => ?_)
  refine wpAnyH_take (i := 0) (v := ?_) rfl (by kernel_rfl) (by kernel_rfl) (by kernel_rfl) (fun _ _ _ h => h) (Or.inl ⟨by rfl, ?_⟩) (by assumption) ?_
  rotate_left
  · (intro w' hSw; (try dsimp only at hSw); go_simp) <;> with_reducible rfl
  change wpAnyH Tryz.prog _ _ _ _ _ _ (Act.put _ (some 3) _) _
  (try simp only [Act.put, List.setIfInBounds_toArray, List.set_cons_zero, List.set_cons_succ])
  refine wpAnyH_take (i := 2) (v := ?_) rfl (by kernel_rfl) (by kernel_rfl) (by kernel_rfl) (fun _ _ _ h => h) (Or.inl ⟨by rfl, ?_⟩) (by assumption) ?_
  rotate_left
  · (intro w' hSw; (try dsimp only at hSw); go_simp) <;> with_reducible rfl
  change wpAnyH Tryz.prog _ _ _ _ _ _ (Act.put _ (some 5) _) _
  (try simp only [Act.put, List.setIfInBounds_toArray, List.set_cons_zero, List.set_cons_succ])
  refine wpAnyH_ready (rs := [1]) (by kernel_rfl) (by simp) ?_
  refine AllReadyH.cons (i := 1) rfl (fun K hK => ?_) AllReadyH.nil
  go_simp
  refine Calls.mono (CP.out _ hHeld.1) ?_
  rintro e w2 ⟨rfl, hb2⟩
  have hx2 := Ex.trans (And.left hHeld) hb2
  clear hHeld CP
  cases R with
  | false =>
    simp only [errV, Bool.false_eq_true, if_false]
    go_wp2_with fail
    refine hK.out _ _ ?_ (fun hHeld => ?_)
    · exact KS.out _ hx2
    clear hK
    (try simp only [Act.put, List.setIfInBounds_toArray, List.set_cons_zero, List.set_cons_succ])
    refine wpAnyH_ready (rs := [3]) (by kernel_rfl) (by simp) ?_
    refine AllReadyH.cons (i := 3) rfl (fun K hK => ?_) AllReadyH.nil
    go_simp
    refine (is_same ea _).mono ?_
    rintro e w3 ⟨rfl, hb3⟩
    have hx3 := Ex.trans (And.left hHeld) hb3
    clear hHeld
    go_wp2_with fail
    refine hK.out _ _ ?_ (fun hHeld => ?_)
    · exact KS.out _ hx3
    clear hK
    (try simp only [Act.put, List.setIfInBounds_toArray, List.set_cons_zero, List.set_cons_succ])
    refine wpAnyH_take (i := 4) (v := ?_) rfl (by kernel_rfl) (by kernel_rfl) (by kernel_rfl) (fun _ _ _ h => h) (Or.inl ⟨by rfl, ?_⟩) (by assumption) ?_
    rotate_left
    · (intro w' hSw; (try dsimp only at hSw); go_simp) <;> with_reducible rfl
    change wpAnyH Tryz.prog _ _ _ _ _ _ (Act.put _ (some 7) _) _
    (try simp only [Act.put, List.setIfInBounds_toArray, List.set_cons_zero, List.set_cons_succ])
    refine wpAnyH_take (i := 5) (v := ?_) rfl (by kernel_rfl) (by kernel_rfl) (by kernel_rfl) (fun _ _ _ h => h) (Or.inl ⟨by rfl, ?_⟩) (by assumption) ?_
    rotate_left
    · (intro w' hSw; (try dsimp only at hSw); go_simp) <;> with_reducible rfl
    change wpAnyH Tryz.prog _ _ _ _ _ _ (Act.put _ (some 2) _) _
    (try simp only [Act.put, List.setIfInBounds_toArray, List.set_cons_zero, List.set_cons_succ])
    refine wpAnyH_done (by kernel_rfl) ?_ _
    go_wp2_with fail
    go_ret
    exact ⟨rfl, hHeld.1⟩
  | true =>
    simp only [errV, if_true]
    go_wp2_with fail
    refine hK.out _ _ ?_ (fun hHeld => ?_)
    · exact KS.out _ hx2
    clear hK
    (try simp only [Act.put, List.setIfInBounds_toArray, List.set_cons_zero, List.set_cons_succ])
    refine wpAnyH_ready (rs := [3]) (by kernel_rfl) (by simp) ?_
    refine AllReadyH.cons (i := 3) rfl (fun K hK => ?_) AllReadyH.nil
    go_simp
    refine (is_nil ea _).mono ?_
    rintro e w3 ⟨rfl, hb3⟩
    have hx3 := Ex.trans (And.left hHeld) hb3
    clear hHeld
    go_wp2_with fail
    refine hK.out _ _ ?_ (fun hHeld => ?_)
    · exact KS.out _ hx3
    clear hK
    (try simp only [Act.put, List.setIfInBounds_toArray, List.set_cons_zero, List.set_cons_succ])
    refine wpAnyH_take (i := 4) (v := ?_) rfl (by kernel_rfl) (by kernel_rfl) (by kernel_rfl) (fun _ _ _ h => h) (Or.inl ⟨by rfl, ?_⟩) (by assumption) ?_
    rotate_left
    · (intro w' hSw; (try dsimp only at hSw); go_simp) <;> with_reducible rfl
    change wpAnyH Tryz.prog _ _ _ _ _ _ (Act.put _ (some 7) _) _
    (try simp only [Act.put, List.setIfInBounds_toArray, List.set_cons_zero, List.set_cons_succ])
    refine wpAnyH_take (i := 5) (v := ?_) rfl (by kernel_rfl) (by kernel_rfl) (by kernel_rfl) (fun _ _ _ h => h) (Or.inl ⟨by rfl, ?_⟩) (by assumption) ?_
    rotate_left
    · (intro w' hSw; (try dsimp only at hSw); go_simp) <;> with_reducible rfl
    change wpAnyH Tryz.prog _ _ _ _ _ _ (Act.put _ (some 2) _) _
    (try simp only [Act.put, List.setIfInBounds_toArray, List.set_cons_zero, List.set_cons_succ])
    refine wpAnyH_done (by kernel_rfl) ?_ _
    go_wp2_with fail
    go_ret
    exact ⟨rfl, hHeld.1⟩

end Go.Proofs.YtgpdnoghlommeaaGreatDoor

namespace Go.Proofs

open Go.Shelf
def Tryz.cloneT_ren : Go.Shelf.Ren := ⟨fun | 5 => 116 | 7 => 138 | n => n, fun | 23 => 111 | 25 => 9 | 3 => 55 | 4 => 4 | 20 => 20 | n => n, fun | n => n⟩
theorem Tryz.cloneT : Go.Proofs.SlLaysW.n5 Tryz.prog Tryz.cloneT_ren := {
  mixed := by kernel_rfl
  f5 := ⟨Tryz.f116.name, by decide, Tryz.func116.trans (congrArg some (by kernel_rfl))⟩
  f7 := Tryz.func138.trans (congrArg some (by kernel_rfl))
  t4 := Tryz.underlying4
  a4 := Tryz.isAgg4
  z4 := Tryz.sizeOf4
  v4 := Tryz.zeroValue4
  t20 := Tryz.underlying20
  a20 := Tryz.isAgg20
  z20 := Tryz.sizeOf20
  v20 := Tryz.zeroValue20
  t23 := Tryz.underlying111
  a23 := Tryz.isAgg111
  z23 := Tryz.sizeOf111
  v23 := Tryz.zeroValue111 }
end Go.Proofs

namespace Go.Proofs.YtgpdnoghlommeaaGreatDoor

open Go.RowKit Go.Deep Go.Maps Go.WideMaps

attribute [local go_sem ↓] Go.wp_at_zero Go.wp_at_succ

theorem cloneT_any (w : World) (S : Nat → Prop) (mb n : Nat) (L : ByteArray → F) (hC : KM w S mb n L) :
    Calls Tryz.prog 116 #[.map (some mb)] w fun e w' => ∃ mb', e = .returned (.map (some mb')) ∧ KM w' S mb' n L ∧ w.heap.size ≤ mb' ∧ Ex w w' := by
  obtain ⟨D, h1, h2⟩ := hC
  have hcon := AnyW.maps_Clone_owns Tryz.cloneT 9 selfT mb n D w h1
  change Calls Tryz.prog 116 _ _ _ at hcon
  exact hcon.mono fun e w' ⟨he, ho, _, hb⟩ => ⟨_, he, ⟨D, ho, fun s => by
    obtain ⟨a, c, e2, hV⟩ := h2 s
    exact ⟨a, c, e2, SA_ex hV hb⟩⟩, Nat.le_refl _, hb⟩

/-- A function that was found. -/
def FnP (f : PM) (S : Nat → Prop) (w : World) (e : Ending) (w' : World) : Prop := ∃ a1 k1 a2 k2 a3 k3, e = .returned (.tuple #[.agg #[.string f.name, .slice a1 f.params.length k1, .slice a2 (blen f.binds) k2, .slice a3 (tlen f.says) k3], .bool true]) ∧ XS w' S f.params a1 ∧ BS w' S f.binds a2 ∧ MS w' S f.says a3 ∧ Ex w w'

set_option maxRecDepth 100000 in
set_option maxHeartbeats 2000000 in
theorem named_fn (l : List PM) (a : Option Addr) (c : Nat) (s : ByteArray) (q : Nat) (w : World) (S : Nat → Prop) (hl : l.length ≤ 1000000000) (hQ : QS w S l a) (hq : q < l.length) (h1 : ∀ j, j < q → ((l.getD j pm0).name.toList == s.toList) = false) (h2 : ((l.getD q pm0).name.toList == s.toList) = true) :
    Calls Tryz.prog 58 #[.slice a l.length c, .string s] w (FnP (l.getD q pm0) S w) := by
  have H1 : Hid (∀ j, j < q → ((l.getD j pm0).name.toList == s.toList) = false) := h1
  have H2 : Hid (((l.getD q pm0).name.toList == s.toList) = true) := h2
  clear h1 h2
  obtain ⟨b, o, rfl, _, hk⟩ := hQ.resolve_left (by omega)
  have hbs : b < w.heap.size := World.block_lt_of_cell? _ _ (hk q hq).1
  have HK : Hid (∀ i, i < l.length → PT w S (l.getD i pm0) b (o + i * 4)) := hk
  have ZB : Hid (b < w.heap.size) := hbs
  clear hk hbs
  have N : Hid (Ex w (w.alloc (.cells #[.string ⟨#[]⟩, .slice none 0 0, .slice none 0 0, .slice none 0 0] 61))) := Ex.new _ _
  have BZ : Hid (∀ w', Ex (w.alloc (.cells #[.string ⟨#[]⟩, .slice none 0 0, .slice none 0 0, .slice none 0 0] 61)) w' → w'.heap[w.heap.size]? = some (.cells #[.string ⟨#[]⟩, .slice none 0 0, .slice none 0 0, .slice none 0 0] 61 (0, 0))) := fun w' h => h.blk (heap_alloc_new _ _)
  clear hQ
  go_enter Tryz.func58, Tryz.ntmps58
  go_wp2_with fail
  go_loopw [7, 10] (fun _ i wr => ∃ (j : Nat), j ≤ q ∧ i = .int .i64 j ∧ Ex (w.alloc (.cells #[.string ⟨#[]⟩, .slice none 0 0, .slice none 0 0, .slice none 0 0] 61)) wr) (fun _ i _ => l.length - (intOf i).toNat)
  case atStart => exact ⟨0, by omega, rfl, Ex.refl _⟩
  case round =>
    obtain ⟨j, hj, rfl, hx⟩ := hrel
    have E : Hid (Ex (w.alloc (.cells #[.string ⟨#[]⟩, .slice none 0 0, .slice none 0 0, .slice none 0 0] 61)) wr) := hx
    have zr : w.heap.size < wr.heap.size := by have := hx.size; rw [World.size_alloc] at this; omega
    clear hx
    have hlt : j < l.length := by omega
    have HJ : Hid (j < q ∨ j = q) := by show _ ∨ _; omega
    obtain ⟨f0, ⟨a1, k1, f1, hh1⟩, ⟨a2, k2, f2, hh2⟩, ⟨a3, k3, f3, hh3⟩⟩ := HK.out j hlt
    have e0 := (N.out.trans E.out).at f0
    have e1 := (N.out.trans E.out).at f1
    have e2 := (N.out.trans E.out).at f2
    have e3 := (N.out.trans E.out).at f3
    have hbs : b < wr.heap.size := by have := ZB.out; omega
    clear f0 f1 f2 f3
    have HM1 : Hid _ := hh1
    have HM2 : Hid _ := hh2
    have HM3 : Hid _ := hh3
    clear hh1 hh2 hh3
    have U : Hid (((l.getD j pm0).name.toList == s.toList) = false → j < q) := fun h => by
      rcases HJ.out with e | e
      · exact e
      · rw [e, H2.out] at h; cases h
    have V : Hid (((l.getD j pm0).name.toList == s.toList) = true → l.getD q pm0 = l.getD j pm0) := fun h => by
      rcases HJ.out with e | e
      · rw [H1.out j e] at h; cases h
      · rw [e]
    obtain ⟨g, hg⟩ : ∃ g, l.getD j pm0 = g := ⟨_, rfl⟩
    rw [hg] at e0 e1 e2 e3 U V HM1 HM2 HM3
    clear hg
    obtain ⟨gn, gp, gb, gs⟩ := g
    dsimp only at e0 e1 e2 e3 U V HM1 HM2 HM3
    cases he : gn.toList == s.toList with
    | true =>
      have HR : Hid _ := V.out he
      have hR := BZ.out _ E.out
      have qQ : (setL wr w.heap.size 0 [.string gn, .slice a1 gp.length k1, .slice a2 (blen gb) k2, .slice a3 (tlen gs) k3]).heap[w.heap.size]? = some (.cells #[.string gn, .slice a1 gp.length k1, .slice a2 (blen gb) k2, .slice a3 (tlen gs) k3] 61 (0, 0)) := (setL_blk (o := 0) [.string gn, .slice a1 gp.length k1, .slice a2 (blen gb) k2, .slice a3 (tlen gs) k3] hR).trans (by rw [setA_all [.string gn, .slice a1 gp.length k1, .slice a2 (blen gb) k2, .slice a3 (tlen gs) k3] #[.string ⟨#[]⟩, .slice none 0 0, .slice none 0 0, .slice none 0 0] rfl])
      have RR0 : Hid (((setL wr w.heap.size 0 [.string gn, .slice a1 gp.length k1, .slice a2 (blen gb) k2, .slice a3 (tlen gs) k3]).alloc (.cells #[.string gn, .slice a1 gp.length k1, .slice a2 (blen gb) k2, .slice a3 (tlen gs) k3] 61)).cell? ⟨w.heap.size, 0, none⟩ = some (.string gn)) := Ex.at (Ex.new _ _) (blk_cell qQ 0)
      have RR1 : Hid (((setL wr w.heap.size 0 [.string gn, .slice a1 gp.length k1, .slice a2 (blen gb) k2, .slice a3 (tlen gs) k3]).alloc (.cells #[.string gn, .slice a1 gp.length k1, .slice a2 (blen gb) k2, .slice a3 (tlen gs) k3] 61)).cell? ⟨w.heap.size, 1, none⟩ = some (.slice a1 gp.length k1)) := Ex.at (Ex.new _ _) (blk_cell qQ 1)
      have RR2 : Hid (((setL wr w.heap.size 0 [.string gn, .slice a1 gp.length k1, .slice a2 (blen gb) k2, .slice a3 (tlen gs) k3]).alloc (.cells #[.string gn, .slice a1 gp.length k1, .slice a2 (blen gb) k2, .slice a3 (tlen gs) k3] 61)).cell? ⟨w.heap.size, 2, none⟩ = some (.slice a2 (blen gb) k2)) := Ex.at (Ex.new _ _) (blk_cell qQ 2)
      have RR3 : Hid (((setL wr w.heap.size 0 [.string gn, .slice a1 gp.length k1, .slice a2 (blen gb) k2, .slice a3 (tlen gs) k3]).alloc (.cells #[.string gn, .slice a1 gp.length k1, .slice a2 (blen gb) k2, .slice a3 (tlen gs) k3] 61)).cell? ⟨w.heap.size, 3, none⟩ = some (.slice a3 (tlen gs) k3)) := Ex.at (Ex.new _ _) (blk_cell qQ 3)
      have QX : Hid (Ex w ((setL wr w.heap.size 0 [.string gn, .slice a1 gp.length k1, .slice a2 (blen gb) k2, .slice a3 (tlen gs) k3]).alloc (.cells #[.string gn, .slice a1 gp.length k1, .slice a2 (blen gb) k2, .slice a3 (tlen gs) k3] 61))) := (setL_ex (o := 0) (b := w.heap.size) [.string gn, .slice a1 gp.length k1, .slice a2 (blen gb) k2, .slice a3 (tlen gs) k3] (N.out.trans E.out) (Nat.le_refl _)).alloc _
      have cr0 : wr.cell? ⟨w.heap.size, 0, none⟩ = some (.string ⟨#[]⟩) := blk_cell (BZ.out _ E.out) 0
      have cr1 : wr.cell? ⟨w.heap.size, 1, none⟩ = some (.slice none 0 0) := blk_cell (BZ.out _ E.out) 1
      have cr2 : wr.cell? ⟨w.heap.size, 2, none⟩ = some (.slice none 0 0) := blk_cell (BZ.out _ E.out) 2
      have cr3 : wr.cell? ⟨w.heap.size, 3, none⟩ = some (.slice none 0 0) := blk_cell (BZ.out _ E.out) 3
      have fr0 := blk_free hR 0
      have fr1 := blk_free hR 1
      have fr2 := blk_free hR 2
      have fr3 := blk_free hR 3
      clear hR qQ
      go_wp2_with fail
      have r0 := RR0.out
      have r1 := RR1.out
      have r2 := RR2.out
      have r3 := RR3.out
      simp only [setL, Nat.zero_add, Nat.reduceAdd] at r0 r1 r2 r3
      refine bodyPost_ret (v := .tuple #[.agg #[.string gn, .slice a1 gp.length k1, .slice a2 (blen gb) k2, .slice a3 (tlen gs) k3], .bool true]) (by simp [results, Tryz.results58, go_sem, r0, r1, r2, r3]) rfl ?_
      rw [HR.out]
      exact ⟨_, _, _, _, _, _, rfl, XS_ks HM1.out.2 (fun k _ hk => QX.out.block k hk), BS_ks HM2.out (fun k _ hk => QX.out.block k hk), MS_ks HM3.out (fun k _ hk => QX.out.block k hk), QX.out⟩
    | false =>
      have HU : Hid _ := U.out he
      go_wp2_with fail
      go_roundw
      case rel => exact ⟨j + 1, by have := HU.out; omega, by go_num, E.out.alloc _⟩
      case measure => simp [intOf]; omega

end Go.Proofs.YtgpdnoghlommeaaGreatDoor
