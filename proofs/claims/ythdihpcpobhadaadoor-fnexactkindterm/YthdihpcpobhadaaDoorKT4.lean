/- Walks: types that are ok, names bound to types, types of terms however deep, by the program. -/
import Derived.Test.YthdihpcpobhadaaDoorKT3b

import Derived.Test.YthdihpcpobhadaaDoorTS1

namespace Go.Proofs.YthdihpcpobhadaaDoor

open Go.RowKit Go.Deep Go.Maps Go.WideMaps

attribute [local go_sem ↓] Go.wp_at_zero Go.wp_at_succ

/-- All types of a list are ok. -/
def fitAll (l : F) : Bool := (List.range (len l)).all fun i => fits 4 (kid l i)
theorem fitAll_no {l : F} {i : Nat} (h : i < len l) (hb : fits 4 (kid l i) = false) : fitAll l = false := by
  simp only [fitAll]
  rw [List.all_eq_false]
  exact ⟨i, List.mem_range.2 h, by rw [hb]; simp⟩
theorem fitAll_yes {l : F} (h : ∀ i, i < len l → fits 4 (kid l i) = true) : fitAll l = true := by
  simp only [fitAll]
  rw [List.all_eq_true]
  exact fun i hi => h i (List.mem_range.1 hi)
theorem fitAll_at {l : F} (h : fitAll l = true) {i : Nat} (hi : i < len l) : fits 4 (kid l i) = true := by
  simp only [fitAll, List.all_eq_true] at h
  exact h i (List.mem_range.2 hi)

set_option maxRecDepth 100000 in
set_option maxHeartbeats 2000000 in
theorem typesOk_any (l : F) (a : Option Addr) (c : Nat) (w : World) (hl : len l ≤ 1000000000) (hT : TA w 0 l a) :
    Calls Tryd.prog 65 #[.slice a (len l) c] w fun e w' => e = .returned (.bool (fitAll l)) ∧ Ex w w' := by
  have T : Hid (∀ w', Ex w w' → TA w' 0 l a) := fun _ h => TA_below hT h
  clear hT
  obtain ⟨R, hR⟩ : ∃ R, R = fitAll l := ⟨_, rfl⟩
  have RR : Hid (R = fitAll l) := hR
  rw [← hR]
  clear hR
  go_enter Tryd.func65, Tryd.ntmps65
  go_wp2_with fail
  go_loopw [4, 7] (fun _ i wr => ∃ j : Nat, j ≤ len l ∧ i = .int .i64 j ∧ (∀ i, i < j → fits 4 (kid l i) = true) ∧ Ex w wr) (fun _ i _ => len l - (intOf i).toNat)
  case atStart => exact ⟨0, by omega, rfl, fun j hj => by omega, Ex.refl _⟩
  case round =>
    obtain ⟨j, hj, rfl, hall, hx⟩ := hrel
    have A : Hid (∀ i, i < j → fits 4 (kid l i) = true) := hall
    have E : Hid (Ex w wr) := hx
    clear hall hx
    by_cases hlt : j < len l
    · obtain ⟨b, o, rfl, _, hbs, hk⟩ := TA_at (T.out wr E.out) (by omega)
      obtain ⟨a1, c1, hc1, ht1⟩ := hk j hlt
      have IT : Hid (∀ w', Ex wr w' → Calls Tryd.prog 11 #[.agg #[.slice a1 (len (kid l j)) c1]] w' fun e w'' => e = .returned (.bool (fits 4 (kid l j))) ∧ Ex w' w'') := fun w' h => iTypeOk_any _ a1 c1 0 w' (TA_below ht1 h)
      have V : Hid (fits 4 (kid l j) = false → R = false) := fun h => RR.out.trans (fitAll_no hlt h)
      have U : Hid (fits 4 (kid l j) = true → ∀ i, i < j + 1 → fits 4 (kid l i) = true) := fun h => upto_succ A.out h
      clear hk ht1
      obtain ⟨z, hz⟩ : ∃ z, fits 4 (kid l j) = z := ⟨_, rfl⟩
      rw [hz] at IT V U
      clear hz
      go_wp2_with fail
      refine (IT.out _ (Ex.new _ _)).mono ?_
      rintro e w1 ⟨rfl, hb1⟩
      have E1 : Hid (Ex w w1) := E.out.trans ((Ex.new _ _).trans hb1)
      clear hb1 IT
      cases z with
      | false =>
        have HR : Hid (R = false) := V.out rfl
        go_wp2_with fail
        go_ret
        exact ⟨ret_b HR.out.symm, E1.out⟩
      | true =>
        have HU : Hid _ := U.out rfl
        go_wp2_with fail
        go_roundw
        case rel => exact ⟨j + 1, by omega, by go_num, HU.out, E1.out⟩
        case measure => simp [intOf]; omega
    · have HR : Hid (R = true) := RR.out.trans (fitAll_yes fun i hi => A.out i (by omega))
      go_wp2_with fail
      go_ret
      exact ⟨ret_b HR.out.symm, E.out⟩

/-- The types of names, some bound anew. -/
def setAll (L : ByteArray → F) (ns : List ByteArray) (l : F) : Nat → ByteArray → F
  | 0 => L
  | k + 1 => setK (setAll L ns l k) (ns.getD k ⟨#[]⟩) (kid l k)

/-- Behind names that were bound. -/
def BdP (S : Nat → Prop) (mb n : Nat) (L : ByteArray → F) (ns : List ByteArray) (l : F) (w : World) (e : Ending) (w' : World) : Prop := e = .returned (.tuple #[]) ∧ KM w' S mb (n + ns.length) (setAll L ns l ns.length) ∧ Fr mb w w'
set_option maxRecDepth 100000 in
set_option maxHeartbeats 2000000 in
theorem bindEachT_any (S : Nat → Prop) (mb n : Nat) (L : ByteArray → F) (ns : List ByteArray) (xa : Option Addr) (xc : Nat) (l : F) (ta : Option Addr) (tc : Nat) (w : World) (hC : KM w S mb n L) (hS : ¬ S mb) (hX : ∀ w', Fr mb w w' → XA w' 0 ns xa) (hz : XLm ns) (hV : SA w S l ta) (hlen : ns.length = len l) (hn : n + ns.length ≤ 999999) :
    Calls Tryd.prog 68 #[.map (some mb), .slice xa ns.length xc, .slice ta (len l) tc] w (BdP S mb n L ns l w) := by
  have X : Hid (∀ w', Fr mb w w' → XA w' 0 ns xa) := hX
  have Z : Hid (XLm ns) := hz
  have V : Hid (∀ w', Fr mb w w' → SA w' S l ta) := fun w' h => SA_ks hV fun b hs hlt => h.block b hlt (fun e => hS (e ▸ hs))
  have NS : Hid (¬ S mb) := hS
  have C0 : Hid (KM w S mb n L) := hC
  have LE : Hid (ns.length = len l) := hlen
  clear hC hX hz hV hS hlen
  go_enter Tryd.func68, Tryd.ntmps68
  go_wp2_with fail
  go_loopw [6, 7, 10] (fun _ _ i wr => ∃ k : Nat, k ≤ ns.length ∧ i = .int .i64 k ∧ KM wr S mb (n + k) (setAll L ns l k) ∧ Fr mb w wr) (fun _ _ i _ => ns.length - (intOf i).toNat)
  case atStart => exact ⟨0, Nat.zero_le _, rfl, C0.out, Fr.refl _ _⟩
  case round =>
    obtain ⟨k, hk, rfl, hCk, hF⟩ := hrel
    have CK : Hid (KM wr S mb (n + k) (setAll L ns l k)) := hCk
    have F : Hid (Fr mb w wr) := hF
    clear hF hCk
    by_cases hlt : k < ns.length
    · obtain ⟨b, o, rfl, hbs, _, hc⟩ := XA_at (X.out wr F.out) (by omega)
      have ck := hc k hlt
      have hsz := Z.out k hlt
      obtain ⟨b', o', rfl, _, hbs', hk'⟩ := SA_at (V.out wr F.out) (by have := LE.out; omega)
      obtain ⟨a1, c1, hc1, ht1⟩ := hk' k (by have := LE.out; omega)
      have T1 : Hid (SA wr S (kid l k) a1) := ht1
      have i2 : (k : Int) < (len l : Int) := by have := LE.out; omega
      have SE : Hid (setAll L ns l (k + 1) = setK (setAll L ns l k) (ns.getD k ⟨#[]⟩) (kid l k)) := rfl
      obtain ⟨s, hs⟩ : ∃ s, ns.getD k ⟨#[]⟩ = s := ⟨_, rfl⟩
      rw [hs] at ck hsz SE
      have SZ : Hid _ := hsz
      clear hc hs hk' ht1 hsz
      go_wp2_with (at_mapUpdate; refine wpList_bindT rfl _ _ _ rfl S mb (n + k) (setAll L ns l k) s SZ.out rfl CK.out NS.out (by omega) rfl (kid l k) a1 c1 rfl T1.out ?_)
      intro w1 hC1 hF1
      have CN : Hid (KM w1 S mb (n + (k + 1)) (setAll L ns l (k + 1))) := by
        show KM _ _ _ _ _
        rw [SE.out, ← Nat.add_assoc]; exact hC1
      have F1 : Hid (Fr mb w w1) := F.out.trans hF1
      clear hC1 hF1 ck CK
      go_wp2_with fail
      go_roundw
      case rel => exact ⟨k + 1, by omega, by go_num, CN.out, F1.out⟩
      case measure => simp [intOf]; omega
    · have CE : Hid (KM wr S mb (n + ns.length) (setAll L ns l ns.length)) := by
        show KM _ _ _ _ _
        have e : k = ns.length := by omega
        have := CK.out
        rw [e] at this; exact this
      go_wp2_with fail
      go_end0
      exact ⟨rfl, CE.out, F.out⟩

theorem one_fit {L : ByteArray → F} {k : Int} {s : ByteArray} {p : List Int} {l v : F} {m : Nat} (hL : ∀ s, fits 4 (L s) = true) (hl : ∀ i, i < len l → fits 4 (kid l i) = true) (hm : len l = m) (hsh : k = 1 ∨ k = 2 ∨ k = 6 ∨ (k = 7 ∧ m = 1) ∨ (k ≠ 7 ∧ m = 2)) (h : oneT L k s p (some l) = some v) : fits 4 v = true := by
  by_cases h1 : k = 1
  · subst h1; cases h; rfl
  by_cases h2 : k = 2
  · subst h2; cases h; exact hL s
  by_cases h6 : k = 6
  · subst h6
    rw [oneT_6] at h
    unfold ifT at h
    split at h
    · rename_i hf; cases h; exact hf
    · cases h
  by_cases h7 : k = 7
  · subst h7
    rw [oneT_7] at h
    exact part_fits p _ v (hl 0 (by omega)) h
  by_cases h8 : k = 8
  · subst h8
    cases hp : partF (kid l 0) p with
    | none => rw [oneT_8n hp] at h; cases h
    | some g =>
      rw [oneT_8s hp] at h
      unfold ifT at h
      split at h
      · cases h; exact hl 0 (by omega)
      · cases h
  · rw [oneT_o l h1 h2 h6 h7 h8] at h
    unfold ifT at h
    split at h
    · cases h; rfl
    · cases h
theorem evt_fit {L : ByteArray → F} (hL : ∀ s, fits 4 (L s) = true) (ns : List ByteArray) : ∀ (d : Nat) (f : TM), kidsB ns d f = true → ∀ l, evT L f = some l → ∀ i, i < len l → fits 4 (kid l i) = true := by
  intro d
  induction d with
  | zero =>
    intro f h l hl i hi
    have hn := evT_len hl
    rw [kids_zero h] at hn
    omega
  | succ d ih =>
    intro f h l hl i hi
    have hn := evT_len hl
    have he := evT_at hl (j := i) (by omega)
    obtain ⟨t1, t2, _⟩ := kid_tok h (j := i) (by omega)
    unfold evTAt at he
    cases h3 : evT L (tkid f i) with
    | none => rw [h3] at he; cases he
    | some q =>
      rw [h3] at he
      exact one_fit hL (ih _ t2 q h3) (evT_len h3) (tok_shape t1).2.2 he

theorem kterms_any (eb : Addr) (S : Nat → Prop) (L : ByteArray → F) (hL : ∀ s, fits 4 (L s) = true) (la : Option Addr) (ll lc : Nat) (tm : Option Nat) (mb mn : Nat) (ns : List ByteArray) : ∀ (d : Nat) (f : TM) (a : Option Addr) (c : Nat) (w : World), w.cell? ⟨1, 0, none⟩ = some (EV eb) → KM w S mb mn L → (∀ b, S b → b < w.heap.size) →
    MA w 0 f a → tlen f ≤ 100000000 → TSm f → TLm f → kidsB ns d f = true → Calls Tryd.prog 74 #[.agg #[.slice la ll lc, .map tm, .map (some mb)], .slice a (tlen f) c] w (TysP eb S (evT L f) w) := by
  intro d
  induction d with
  | zero =>
    intro f a c w _ _ hS hM hl _ _ hk
    exact kterms_by eb S L la ll lc tm mb f a c w hM hl hS fun j hj => by rw [kids_zero hk] at hj; omega
  | succ d ih =>
    intro f a c w hG hE hS hM hl hsm hlm hk
    refine kterms_by eb S L la ll lc tm mb f a c w hM hl hS fun j hj pa pc a' c' w' hx hp hpc hm => ?_
    obtain ⟨g1, g2, g3⟩ := TSm_kid hsm j hj
    obtain ⟨h1, h2, h3, h4⟩ := TLm_at hlm j hj
    obtain ⟨t1, t2, _⟩ := kid_tok hk hj
    obtain ⟨s1, s2, s3⟩ := tok_shape t1
    have hS' : ∀ b, S b → b < w'.heap.size := fun b hb => Nat.lt_of_lt_of_le (hS b hb) hx.size
    exact kterm_by eb S L la ll lc tm mb mn _ _ _ _ pa pc _ a' c' w' (hx.at hG) (hE.ex hx) hS' h1 g1 hp s3 (evt_fit hL ns d _ t2) fun w2 hx2 => ih _ a' c' w2 ((hx.trans hx2).at hG) (hE.ex (hx.trans hx2)) (fun b hb => Nat.lt_of_lt_of_le (hS' b hb) hx2.size) (MA_below hm hx2) (by omega) g3 h4 t2

end Go.Proofs.YthdihpcpobhadaaDoor
