/- Walks: types that are ok, names bound to types, types of terms however deep, by the program. Walks: whether two types are the same, by the specification. Walks: a binding that is ok. -/
import Derived.Test.YtgpdnoghlommeaaGreatDoorGTS1
import Derived.Test.YtgpdnoghlommeaaGreatDoorGTM2
import Derived.Test.YtgpdnoghlommeaaGreatDoorGBD3
import Derived.Deep.RegionHeld3
namespace Go.Proofs.YtgpdnoghlommeaaGreatDoor

open Go.RowKit Go.Deep Go.Maps Go.WideMaps

attribute [local go_sem ↓] Go.wp_at_zero Go.wp_at_succ

/-- All types of a list are ok. -/
def fitAll (l : F) : Bool := (List.range (len l)).all fun i => fits 4 (kid l i)
theorem fitAll_no {l : F} {i : Nat} (h : i < len l) (hb : fits 4 (kid l i) = false) : fitAll l = false := by
  simp only [fitAll]
  rw [List.all_eq_false]
  exact ⟨i, List.mem_range.2 h, by rw [hb]; simp⟩
theorem fitAll_yes {l : F} (h : ∀ i, i < len l → fits 4 (kid l i) = true) : fitAll l = true := by
  simp only [fitAll]
  rw [List.all_eq_true]
  exact fun i hi => h i (List.mem_range.1 hi)
theorem fitAll_at {l : F} (h : fitAll l = true) {i : Nat} (hi : i < len l) : fits 4 (kid l i) = true := by
  simp only [fitAll, List.all_eq_true] at h
  exact h i (List.mem_range.2 hi)

set_option maxRecDepth 100000 in
set_option maxHeartbeats 2000000 in
theorem typesOk_any (l : F) (a : Option Addr) (c : Nat) (w : World) (hl : len l ≤ 1000000000) (hT : TA w 0 l a) :
    Calls Tryz.prog 59 #[.slice a (len l) c] w fun e w' => e = .returned (.bool (fitAll l)) ∧ Ex w w' := by
  have T : Hid (∀ w', Ex w w' → TA w' 0 l a) := fun _ h => TA_below hT h
  clear hT
  obtain ⟨R, hR⟩ : ∃ R, R = fitAll l := ⟨_, rfl⟩
  have RR : Hid (R = fitAll l) := hR
  rw [← hR]
  clear hR
  go_enter Tryz.func59, Tryz.ntmps59
  go_wp2_with fail
  go_loopw [4, 7] (fun _ i wr => ∃ j : Nat, j ≤ len l ∧ i = .int .i64 j ∧ (∀ i, i < j → fits 4 (kid l i) = true) ∧ Ex w wr) (fun _ i _ => len l - (intOf i).toNat)
  case atStart => exact ⟨0, by omega, rfl, fun j hj => by omega, Ex.refl _⟩
  case round =>
    obtain ⟨j, hj, rfl, hall, hx⟩ := hrel
    have A : Hid (∀ i, i < j → fits 4 (kid l i) = true) := hall
    have E : Hid (Ex w wr) := hx
    clear hall hx
    by_cases hlt : j < len l
    · obtain ⟨b, o, rfl, _, hbs, hk⟩ := TA_at (T.out wr E.out) (by omega)
      obtain ⟨a1, c1, hc1, ht1⟩ := hk j hlt
      have IT : Hid (∀ w', Ex wr w' → Calls Tryz.prog 83 #[.agg #[.slice a1 (len (kid l j)) c1]] w' fun e w'' => e = .returned (.bool (fits 4 (kid l j))) ∧ Ex w' w'') := fun w' h => iTypeOk_any _ a1 c1 0 w' (TA_below ht1 h)
      have V : Hid (fits 4 (kid l j) = false → R = false) := fun h => RR.out.trans (fitAll_no hlt h)
      have U : Hid (fits 4 (kid l j) = true → ∀ i, i < j + 1 → fits 4 (kid l i) = true) := fun h => upto_succ A.out h
      clear hk ht1
      obtain ⟨z, hz⟩ : ∃ z, fits 4 (kid l j) = z := ⟨_, rfl⟩
      rw [hz] at IT V U
      clear hz
      go_wp2_with fail
      refine (IT.out _ (Ex.new _ _)).mono ?_
      rintro e w1 ⟨rfl, hb1⟩
      have E1 : Hid (Ex w w1) := E.out.trans ((Ex.new _ _).trans hb1)
      clear hb1 IT
      cases z with
      | false =>
        have HR : Hid (R = false) := V.out rfl
        go_wp2_with fail
        go_ret
        exact ⟨ret_b HR.out.symm, E1.out⟩
      | true =>
        have HU : Hid _ := U.out rfl
        go_wp2_with fail
        go_roundw
        case rel => exact ⟨j + 1, by omega, by go_num, HU.out, E1.out⟩
        case measure => simp [intOf]; omega
    · have HR : Hid (R = true) := RR.out.trans (fitAll_yes fun i hi => A.out i (by omega))
      go_wp2_with fail
      go_ret
      exact ⟨ret_b HR.out.symm, E.out⟩

/-- The types of names, some bound anew. -/
def setAll (L : ByteArray → F) (ns : List ByteArray) (l : F) : Nat → ByteArray → F
  | 0 => L
  | k + 1 => setK (setAll L ns l k) (ns.getD k ⟨#[]⟩) (kid l k)

/-- Behind names that were bound. -/
def BdP (S : Nat → Prop) (mb n : Nat) (L : ByteArray → F) (ns : List ByteArray) (l : F) (w : World) (e : Ending) (w' : World) : Prop := e = .returned (.tuple #[]) ∧ KM w' S mb (n + ns.length) (setAll L ns l ns.length) ∧ Fr mb w w'
set_option maxRecDepth 100000 in
set_option maxHeartbeats 2000000 in
theorem bindEachT_any (S : Nat → Prop) (mb n : Nat) (L : ByteArray → F) (ns : List ByteArray) (xa : Option Addr) (xc : Nat) (l : F) (ta : Option Addr) (tc : Nat) (w : World) (hC : KM w S mb n L) (hS : ¬ S mb) (hX : ∀ w', Fr mb w w' → XA w' 0 ns xa) (hz : XLm ns) (hV : SA w S l ta) (hlen : ns.length = len l) (hn : n + ns.length ≤ 999999) :
    Calls Tryz.prog 85 #[.map (some mb), .slice xa ns.length xc, .slice ta (len l) tc] w (BdP S mb n L ns l w) := by
  have X : Hid (∀ w', Fr mb w w' → XA w' 0 ns xa) := hX
  have Z : Hid (XLm ns) := hz
  have V : Hid (∀ w', Fr mb w w' → SA w' S l ta) := fun w' h => SA_ks hV fun b hs hlt => h.block b hlt (fun e => hS (e ▸ hs))
  have NS : Hid (¬ S mb) := hS
  have C0 : Hid (KM w S mb n L) := hC
  have LE : Hid (ns.length = len l) := hlen
  clear hC hX hz hV hS hlen
  go_enter Tryz.func85, Tryz.ntmps85
  go_wp2_with fail
  go_loopw [6, 7, 10] (fun _ _ i wr => ∃ k : Nat, k ≤ ns.length ∧ i = .int .i64 k ∧ KM wr S mb (n + k) (setAll L ns l k) ∧ Fr mb w wr) (fun _ _ i _ => ns.length - (intOf i).toNat)
  case atStart => exact ⟨0, Nat.zero_le _, rfl, C0.out, Fr.refl _ _⟩
  case round =>
    obtain ⟨k, hk, rfl, hCk, hF⟩ := hrel
    have CK : Hid (KM wr S mb (n + k) (setAll L ns l k)) := hCk
    have F : Hid (Fr mb w wr) := hF
    clear hF hCk
    by_cases hlt : k < ns.length
    · obtain ⟨b, o, rfl, hbs, _, hc⟩ := XA_at (X.out wr F.out) (by omega)
      have ck := hc k hlt
      have hsz := Z.out k hlt
      obtain ⟨b', o', rfl, _, hbs', hk'⟩ := SA_at (V.out wr F.out) (by have := LE.out; omega)
      obtain ⟨a1, c1, hc1, ht1⟩ := hk' k (by have := LE.out; omega)
      have T1 : Hid (SA wr S (kid l k) a1) := ht1
      have i2 : (k : Int) < (len l : Int) := by have := LE.out; omega
      have SE : Hid (setAll L ns l (k + 1) = setK (setAll L ns l k) (ns.getD k ⟨#[]⟩) (kid l k)) := rfl
      obtain ⟨s, hs⟩ : ∃ s, ns.getD k ⟨#[]⟩ = s := ⟨_, rfl⟩
      rw [hs] at ck hsz SE
      have SZ : Hid _ := hsz
      clear hc hs hk' ht1 hsz
      go_wp2_with (at_mapUpdate; refine wpList_bindT rfl _ _ _ rfl S mb (n + k) (setAll L ns l k) s SZ.out rfl CK.out NS.out (by omega) rfl (kid l k) a1 c1 rfl T1.out ?_)
      intro w1 hC1 hF1
      have CN : Hid (KM w1 S mb (n + (k + 1)) (setAll L ns l (k + 1))) := by
        show KM _ _ _ _ _
        rw [SE.out, ← Nat.add_assoc]; exact hC1
      have F1 : Hid (Fr mb w w1) := F.out.trans hF1
      clear hC1 hF1 ck CK
      go_wp2_with fail
      go_roundw
      case rel => exact ⟨k + 1, by omega, by go_num, CN.out, F1.out⟩
      case measure => simp [intOf]; omega
    · have CE : Hid (KM wr S mb (n + ns.length) (setAll L ns l ns.length)) := by
        show KM _ _ _ _ _
        have e : k = ns.length := by omega
        have := CK.out
        rw [e] at this; exact this
      go_wp2_with fail
      go_end0
      exact ⟨rfl, CE.out, F.out⟩

theorem one_fit {L : ByteArray → F} {k : Int} {s : ByteArray} {p : List Int} {l v : F} {m : Nat} (hL : ∀ s, fits 4 (L s) = true) (hl : ∀ i, i < len l → fits 4 (kid l i) = true) (hm : len l = m) (hsh : k = 1 ∨ k = 2 ∨ k = 6 ∨ (k = 7 ∧ m = 1) ∨ (k ≠ 7 ∧ m = 2)) (h : oneT L k s p (some l) = some v) : fits 4 v = true := by
  by_cases h1 : k = 1
  · subst h1; cases h; rfl
  by_cases h2 : k = 2
  · subst h2; cases h; exact hL s
  by_cases h6 : k = 6
  · subst h6
    rw [oneT_6] at h
    unfold ifT at h
    split at h
    · rename_i hf; cases h; exact hf
    · cases h
  by_cases h7 : k = 7
  · subst h7
    rw [oneT_7] at h
    exact part_fits p _ v (hl 0 (by omega)) h
  by_cases h8 : k = 8
  · subst h8
    cases hp : partF (kid l 0) p with
    | none => rw [oneT_8n hp] at h; cases h
    | some g =>
      rw [oneT_8s hp] at h
      unfold ifT at h
      split at h
      · cases h; exact hl 0 (by omega)
      · cases h
  · rw [oneT_o l h1 h2 h6 h7 h8] at h
    unfold ifT at h
    split at h
    · cases h; rfl
    · cases h
theorem evt_fit {L : ByteArray → F} (hL : ∀ s, fits 4 (L s) = true) (ns : List ByteArray) : ∀ (d : Nat) (f : TM), kidsB ns d f = true → ∀ l, evT L f = some l → ∀ i, i < len l → fits 4 (kid l i) = true := by
  intro d
  induction d with
  | zero =>
    intro f h l hl i hi
    have hn := evT_len hl
    rw [kids_zero h] at hn
    omega
  | succ d ih =>
    intro f h l hl i hi
    have hn := evT_len hl
    have he := evT_at hl (j := i) (by omega)
    obtain ⟨t1, t2, _⟩ := kid_tok h (j := i) (by omega)
    unfold evTAt at he
    cases h3 : evT L (tkid f i) with
    | none => rw [h3] at he; cases he
    | some q =>
      rw [h3] at he
      exact one_fit hL (ih _ t2 q h3) (evT_len h3) (tok_shape t1).2.2 he

theorem kterms_any (eb : Addr) (S : Nat → Prop) (L : ByteArray → F) (hL : ∀ s, fits 4 (L s) = true) (la : Option Addr) (ll lc : Nat) (tm : Option Nat) (mb mn : Nat) (ns : List ByteArray) : ∀ (d : Nat) (f : TM) (a : Option Addr) (c : Nat) (w : World), w.cell? ⟨1, 0, none⟩ = some (EV eb) → KM w S mb mn L → (∀ b, S b → b < w.heap.size) →
    MA w 0 f a → tlen f ≤ 100000000 → TSm f → TLm f → kidsB ns d f = true → Calls Tryz.prog 118 #[.agg #[.slice la ll lc, .map tm, .map (some mb)], .slice a (tlen f) c] w (TysP eb S (evT L f) w) := by
  intro d
  induction d with
  | zero =>
    intro f a c w _ _ hS hM hl _ _ hk
    exact kterms_by eb S L la ll lc tm mb f a c w hM hl hS fun j hj => by rw [kids_zero hk] at hj; omega
  | succ d ih =>
    intro f a c w hG hE hS hM hl hsm hlm hk
    refine kterms_by eb S L la ll lc tm mb f a c w hM hl hS fun j hj pa pc a' c' w' hx hp hpc hm => ?_
    obtain ⟨g1, g2, g3⟩ := TSm_kid hsm j hj
    obtain ⟨h1, h2, h3, h4⟩ := TLm_at hlm j hj
    obtain ⟨t1, t2, _⟩ := kid_tok hk hj
    obtain ⟨s1, s2, s3⟩ := tok_shape t1
    have hS' : ∀ b, S b → b < w'.heap.size := fun b hb => Nat.lt_of_lt_of_le (hS b hb) hx.size
    exact kterm_by eb S L la ll lc tm mb mn _ _ _ _ pa pc _ a' c' w' (hx.at hG) (hE.ex hx) hS' h1 g1 hp s3 (evt_fit hL ns d _ t2) fun w2 hx2 => ih _ a' c' w2 ((hx.trans hx2).at hG) (hE.ex (hx.trans hx2)) (fun b hb => Nat.lt_of_lt_of_le (hS' b hb) hx2.size) (MA_below hm hx2) (by omega) g3 h4 t2

end Go.Proofs.YtgpdnoghlommeaaGreatDoor

namespace Go.Proofs.YtgpdnoghlommeaaGreatDoor

open Go.RowKit Go.Deep

attribute [local go_sem ↓] Go.wp_at_zero Go.wp_at_succ

set_option maxRecDepth 100000 in
set_option maxHeartbeats 2000000 in
theorem l1Same_any : ∀ (d : Nat) (f g : F) (a a' : Option Addr) (c c' lo lo' : Nat) (w : World), dep f < d → len f ≤ 1000000000 → Sm f → TA w lo f a → TA w lo' g a' →
    Calls Tryz.prog 105 #[.agg #[.slice a (len f) c], .agg #[.slice a' (len g) c']] w fun e w' => e = .returned (.bool (eqT f g)) ∧ Ex w w' := by
  intro d
  induction d with
  | zero =>
    intro f g a a' c c' lo lo' w hd hl hs hT hT'
    omega
  | succ d ih =>
    intro f g a a' c c' lo lo' w hd hl hs hT hT'
    have T : Hid (TA w lo f a) := hT
    have T' : Hid (TA w lo' g a') := hT'
    have I : Hid _ := ih
    have SS : Hid (Sm f) := hs
    clear hT hT' ih hs
    by_cases hlen : len f = len g
    · have e0 : ((len f : Int) != (len g : Int)) = false := by simp [hlen]
      have hle : len f ≤ len g := by omega
      have hge : len g ≤ len f := by omega
      have HL : Hid (len f = len g) := hlen
      clear hlen
      go_enter Tryz.func105, Tryz.ntmps105
      go_wp2_with fail
      go_loopw [5] (fun i wr => ∃ k : Nat, k ≤ len f ∧ i = .int .i64 k ∧ Ex ((w.alloc (.cells #[.slice a (len f) c] 55)).alloc (.cells #[.slice a' (len g) c'] 55)) wr ∧ ∀ j, j < k → eqT (kid f j) (kid g j) = true) (fun i _ => len f - (intOf i).toNat)
      case atStart => exact ⟨0, Nat.zero_le _, rfl, Ex.refl _, fun j hj => by omega⟩
      case round =>
        obtain ⟨k, hk, rfl, hx, hfit⟩ := hrel
        have hbx : wr.cell? ⟨w.heap.size, 0, none⟩ = some (.slice a (len f) c) := Ex.at hx (Ex.at (Ex.new _ _) (World.cell?_alloc_new _ _ _ _))
        have hbx' : wr.cell? ⟨w.heap.size + 1, 0, none⟩ = some (.slice a' (len g) c') := Ex.at hx (World.cell?_alloc_at _ _ _ _ (by simp))
        have hw : Ex w wr := ((Ex.new _ _).alloc _).trans hx
        have FT : Hid (∀ j, j < k → eqT (kid f j) (kid g j) = true) := hfit
        clear hfit
        by_cases hlt : k < len f
        · obtain ⟨b, o, rfl, hlo, hbs, hkk⟩ := TA_at (TA_below T.out hw) (by omega)
          obtain ⟨a1, c1, hc1, ht1⟩ := hkk k hlt
          obtain ⟨b', o', rfl, hlo', hbs', hkk'⟩ := TA_at (TA_below T'.out hw) (by omega)
          obtain ⟨a2, c2, hc2, ht2⟩ := hkk' k (by omega)
          have T1 : Hid (∀ w', Ex wr w' → TA w' lo (kid f k) a1) := fun _ h => TA_below ht1 h
          have T2 : Hid (∀ w', Ex wr w' → TA w' lo' (kid g k) a2) := fun _ h => TA_below ht2 h
          have KS : Hid (∀ w', Ex wr w' → (Ex wr w' ∧ w'.cell? ⟨w.heap.size, 0, none⟩ = some (.slice (some ⟨b, o, none⟩) (len f) c) ∧ w'.cell? ⟨w.heap.size + 1, 0, none⟩ = some (.slice (some ⟨b', o', none⟩) (len g) c') ∧ w'.cell? ⟨b, o + k, none⟩ = some (.slice a1 (len (kid f k)) c1) ∧ w'.cell? ⟨b', o' + k, none⟩ = some (.slice a2 (len (kid g k)) c2))) := fun w' h => ⟨h, Ex.at h hbx, Ex.at h hbx', Ex.at h hc1, Ex.at h hc2⟩
          have hI : Hid (∀ w', Ex wr w' → Calls Tryz.prog 105 #[.agg #[.slice a1 (len (kid f k)) c1], .agg #[.slice a2 (len (kid g k)) c2]] w' fun e w'' => e = .returned (.bool (eqT (kid f k) (kid g k))) ∧ Ex w' w'') := fun w' h =>
            I.out (kid f k) (kid g k) a1 a2 c1 c2 lo lo' w' (by have := dep_kid f k hlt; omega) (Sm_kid SS.out k hlt).1 (Sm_kid SS.out k hlt).2 (T1.out w' h) (T2.out w' h)
          have i0 : (0 : Int) ≤ (k : Int) := by omega
          have i1 : (k : Int) < (len f : Int) := by omega
          have i2 : (k : Int) < (len g : Int) := by omega
          clear hkk hkk' ht1 ht2
          go_wp2_with fail
          go_region_held3 (fun w' => Ex wr w' ∧ w'.cell? ⟨w.heap.size, 0, none⟩ = some (.slice (some ⟨b, o, none⟩) (len f) c) ∧ w'.cell? ⟨w.heap.size + 1, 0, none⟩ = some (.slice (some ⟨b', o', none⟩) (len g) c') ∧ w'.cell? ⟨b, o + k, none⟩ = some (.slice a1 (len (kid f k)) c1) ∧ w'.cell? ⟨b', o' + k, none⟩ = some (.slice a2 (len (kid g k)) c2)) ((refine KS.out _ ?_; first | exact (Ex.refl _).drew | exact Ex.trans (And.left ‹Ex _ _ ∧ _›) ‹Ex _ _›)) (first | (go_at_call 105; refine (hI.out _ (And.left ‹Ex _ _ ∧ _›)).mono ?_; rintro e w7 ⟨rfl, hb7⟩))
          have hx7 : Ex wr w7 := And.left ‹Ex wr w7 ∧ _›
          cases hfk : eqT (kid f k) (kid g k)
          · go_wp2_with fail
            go_ret
            exact ⟨ret_b (eqT_bad _ _ k hlt hfk).symm, hw.trans hx7⟩
          · go_wp2_with fail
            go_roundw
            case rel => exact ⟨k + 1, by omega, by go_num, hx.trans hx7, fun j hj => by
              by_cases hj' : j < k
              · exact FT.out j hj'
              · rw [show j = k by omega]; exact hfk⟩
            case measure => simp [intOf]; omega
        · go_wp2_with fail
          go_ret
          exact ⟨ret_b (eqT_good _ _ HL.out fun j hj => FT.out j (by omega)).symm, hw⟩
    · have e0 : ((len f : Int) != (len g : Int)) = true := by simp; omega
      go_enter Tryz.func105, Tryz.ntmps105
      go_wp2_with fail
      go_ret
      exact ⟨ret_b (eqT_len _ _ hlen).symm, (Ex.new _ _).alloc _⟩


end Go.Proofs.YtgpdnoghlommeaaGreatDoor

namespace Go.Proofs.YtgpdnoghlommeaaGreatDoor

open Go.RowKit Go.Deep

attribute [local go_sem ↓] Go.wp_at_zero Go.wp_at_succ

theorem XA_take {w : World} {lo : Nat} {p : List ByteArray} {a : Option Addr} (h : XA w lo p a) (j : Nat) (hj : j ≤ p.length) : XA w lo (p.take j) a ∧ (p.take j).length = j := by
  have hl : (p.take j).length = j := by rw [List.length_take]; omega
  refine ⟨?_, hl⟩
  rcases h with h | ⟨b, o, e, hb, hc⟩
  · exact Or.inl (by omega)
  · refine Or.inr ⟨b, o, e, hb, fun i hi => ?_⟩
    rw [hc i (by omega)]
    simp only [List.getD]
    rw [List.getElem?_take_of_lt (by omega)]

theorem bindB_len {fs : List PM} {rec : List ByteArray → BD → TM → Bool} {ns : List ByteArray} {k : Int} {nm : List ByteArray} {fn : ByteArray} {ts : TM} {tb : BD} {tz : TM} {eb : BD} {ez : TM} (h : 60 < nm.length) : bindB fs rec ns k nm fn ts tb tz eb ez = false := by
  simp [bindB, show ¬ nm.length ≤ 60 by omega]
theorem bindB_terms {fs : List PM} {rec : List ByteArray → BD → TM → Bool} {ns : List ByteArray} {k : Int} {nm : List ByteArray} {fn : ByteArray} {ts : TM} {tb : BD} {tz : TM} {eb : BD} {ez : TM} (h : termsB ns ts = false) : bindB fs rec ns k nm fn ts tb tz eb ez = false := by
  simp [bindB, h]
theorem bindB_uniq {fs : List PM} {rec : List ByteArray → BD → TM → Bool} {ns : List ByteArray} {k : Int} {nm : List ByteArray} {fn : ByteArray} {ts : TM} {tb : BD} {tz : TM} {eb : BD} {ez : TM} (h : uniqB nm = false) : bindB fs rec ns k nm fn ts tb tz eb ez = false := by
  simp [bindB, h]
theorem bindB_kind {fs : List PM} {rec : List ByteArray → BD → TM → Bool} {ns : List ByteArray} {k : Int} {nm : List ByteArray} {fn : ByteArray} {ts : TM} {tb : BD} {tz : TM} {eb : BD} {ez : TM} (h1 : nm.length ≤ 60) (h2 : termsB ns ts = true) (h3 : uniqB nm = true) : bindB fs rec ns k nm fn ts tb tz eb ez = kindB fs rec ns k nm fn ts tb tz eb ez := by
  simp only [bindB, h1, h2, h3, decide_true, Bool.true_and]

theorem kindB_1 {fs : List PM} {rec : List ByteArray → BD → TM → Bool} {ns : List ByteArray} {nm : List ByteArray} {fn : ByteArray} {ts : TM} {tb : BD} {tz : TM} {eb : BD} {ez : TM} : kindB fs rec ns 1 nm fn ts tb tz eb ez = (decide (blen tb + tlen tz + blen eb + tlen ez = 0) && (decide (fn.size = 0) && (decide (nm.length = 1) && decide (tlen ts = 1)))) := rfl
theorem kindB_2 {fs : List PM} {rec : List ByteArray → BD → TM → Bool} {ns : List ByteArray} {nm : List ByteArray} {fn : ByteArray} {ts : TM} {tb : BD} {tz : TM} {eb : BD} {ez : TM} : kindB fs rec ns 2 nm fn ts tb tz eb ez = (decide (blen tb + tlen tz + blen eb + tlen ez = 0) && ((arityR fs fn).2.2 && (decide ((arityR fs fn).1 = tlen ts) && decide ((arityR fs fn).2.1 = nm.length)))) := rfl
theorem kindB_3 {fs : List PM} {rec : List ByteArray → BD → TM → Bool} {ns : List ByteArray} {nm : List ByteArray} {fn : ByteArray} {ts : TM} {tb : BD} {tz : TM} {eb : BD} {ez : TM} : kindB fs rec ns 3 nm fn ts tb tz eb ez = (decide (fn.size = 0) && (decide (tlen ts = 1) && (rec ns tb tz && (rec ns eb ez && (decide (tlen tz = nm.length) && decide (tlen ez = nm.length)))))) := rfl
theorem kindB_o {fs : List PM} {rec : List ByteArray → BD → TM → Bool} {ns : List ByteArray} {nm : List ByteArray} {fn : ByteArray} {ts : TM} {tb : BD} {tz : TM} {eb : BD} {ez : TM} {k : Int} (h1 : ¬ k = 1) (h2 : ¬ k = 2) (h3 : ¬ k = 3) : kindB fs rec ns k nm fn ts tb tz eb ez = false := by
  unfold kindB; rw [if_neg h1, if_neg h2, if_neg h3]

set_option maxRecDepth 100000 in
set_option maxHeartbeats 4000000 in
theorem l12Bind_any (l : List PM) (la : Option Addr) (lc at_ : Nat) (hat : at_ ≤ l.length) (hl : l.length ≤ 1000000000) (ns : List ByteArray) (na : Option Addr) (nc : Nat) (hns : ns.length ≤ 1000000000) (rec : List ByteArray → BD → TM → Bool)
    (k : Int) (nm : List ByteArray) (nma : Option Addr) (nmc : Nat) (fn : ByteArray) (ts : TM) (tsa : Option Addr) (tsc : Nat) (tb : BD) (tba : Option Addr) (tbc : Nat) (tz : TM) (tza : Option Addr) (tzc : Nat) (eb : BD) (eba : Option Addr) (ebc : Nat) (ez : TM) (eza : Option Addr) (ezc : Nat) (d : Nat) (hd : d ≤ 1000) (w : World)
    (z1 : blen tb ≤ 1000000000) (z2 : tlen tz ≤ 1000000000) (z3 : blen eb ≤ 1000000000) (z4 : tlen ez ≤ 1000000000) (hnc : nm.length ≤ nmc)
    (hQ : QA w 0 l la) (hX : XA w 0 ns na) (hN : XA w 0 nm nma) (hT : MA w 0 ts tsa)
    (hB1 : ∀ w', Ex w w' → Calls Tryz.prog 50 #[.slice la l.length lc, .int .i64 at_, .slice na ns.length nc, .agg #[.slice tba (blen tb) tbc, .slice tza (tlen tz) tzc], .int .i64 d] w' fun e w'' => e = .returned (.bool (rec ns tb tz)) ∧ Ex w' w'')
    (hB2 : ∀ w', Ex w w' → Calls Tryz.prog 50 #[.slice la l.length lc, .int .i64 at_, .slice na ns.length nc, .agg #[.slice eba (blen eb) ebc, .slice eza (tlen ez) ezc], .int .i64 d] w' fun e w'' => e = .returned (.bool (rec ns eb ez)) ∧ Ex w' w'') :
    Calls Tryz.prog 75 #[.slice la l.length lc, .int .i64 at_, .slice na ns.length nc, .agg #[.int .i64 k, .slice nma nm.length nmc, .string fn, .slice tsa (tlen ts) tsc, .slice tba (blen tb) tbc, .slice tza (tlen tz) tzc, .slice eba (blen eb) ebc, .slice eza (tlen ez) ezc], .int .i64 (d + 1 : Nat)] w fun e w' => e = .returned (.bool (bindB (l.take at_) rec ns k nm fn ts tb tz eb ez)) ∧ Ex w w' := by
  have Q : Hid (∀ w', Ex w w' → QA w' 0 l la) := fun _ h => QA_below hQ h
  have X : Hid (∀ w', Ex w w' → XA w' 0 ns na) := fun _ h => XA_below hX h
  have NN : Hid (∀ w', Ex w w' → XA w' 0 nm nma) := fun _ h => XA_below hN h
  have T : Hid (∀ w', Ex w w' → MA w' 0 ts tsa) := fun _ h => MA_below hT h
  have B1 : Hid _ := hB1
  have B2 : Hid _ := hB2
  have N : Hid (Ex w (w.alloc (.cells #[.int .i64 k, .slice nma nm.length nmc, .string fn, .slice tsa (tlen ts) tsc, .slice tba (blen tb) tbc, .slice tza (tlen tz) tzc, .slice eba (blen eb) ebc, .slice eza (tlen ez) ezc] 102))) := Ex.new _ _
  have C : Hid (∀ w', Ex (w.alloc (.cells #[.int .i64 k, .slice nma nm.length nmc, .string fn, .slice tsa (tlen ts) tsc, .slice tba (blen tb) tbc, .slice tza (tlen tz) tzc, .slice eba (blen eb) ebc, .slice eza (tlen ez) ezc] 102)) w' → w'.cell? ⟨w.heap.size, 0, none⟩ = some (.int .i64 k) ∧ w'.cell? ⟨w.heap.size, 1, none⟩ = some (.slice nma nm.length nmc) ∧ w'.cell? ⟨w.heap.size, 2, none⟩ = some (.string fn) ∧ w'.cell? ⟨w.heap.size, 3, none⟩ = some (.slice tsa (tlen ts) tsc) ∧ w'.cell? ⟨w.heap.size, 4, none⟩ = some (.slice tba (blen tb) tbc) ∧ w'.cell? ⟨w.heap.size, 5, none⟩ = some (.slice tza (tlen tz) tzc) ∧ w'.cell? ⟨w.heap.size, 6, none⟩ = some (.slice eba (blen eb) ebc) ∧ w'.cell? ⟨w.heap.size, 7, none⟩ = some (.slice eza (tlen ez) ezc)) := fun w' h => ⟨h.at (by simp), h.at (by simp), h.at (by simp), h.at (by simp), h.at (by simp), h.at (by simp), h.at (by simp), h.at (by simp)⟩
  obtain ⟨R, hR⟩ : ∃ R, R = bindB (l.take at_) rec ns k nm fn ts tb tz eb ez := ⟨_, rfl⟩
  have RR : Hid (R = bindB (l.take at_) rec ns k nm fn ts tb tz eb ez) := hR
  rw [← hR]
  obtain ⟨D, hD⟩ : ∃ D : Int, D = ((d + 1 : Nat) : Int) := ⟨_, rfl⟩
  have HD : Hid (D = ((d + 1 : Nat) : Int)) := hD
  rw [← hD]
  have d3 : D - 1 = (d : Int) := by omega
  have d4 : IntKind.i64.wrap (D - 1) = (d : Int) := by rw [d3]; exact IntWalk.i64_in _ (by omega)
  clear hQ hX hN hT hB1 hB2 hR hD
  by_cases h60 : 60 < nm.length
  · have HR : Hid (R = false) := RR.out.trans (bindB_len h60)
    have e1 : decide ((60 : Int) < (nm.length : Int)) = true := decide_eq_true (by omega)
    go_enter Tryz.func75, Tryz.ntmps75
    go_wp2_with fail
    go_ret
    exact ⟨ret_b HR.out.symm, N.out⟩
  have e1 : decide ((60 : Int) < (nm.length : Int)) = false := decide_eq_false (by omega)
  go_enter Tryz.func75, Tryz.ntmps75
  go_wp2_with fail
  refine (l12Terms_any ns na nc hns ts tsa tsc _ (X.out _ N.out) (T.out _ N.out)).mono ?_
  rintro e w1 ⟨rfl, hb1⟩
  cases ht : termsB ns ts with
  | false =>
    have HR : Hid (R = false) := RR.out.trans (bindB_terms ht)
    go_wp2_with fail
    go_ret
    exact ⟨ret_b HR.out.symm, N.out.trans hb1⟩
  | true =>
    have HT : Hid (termsB ns ts = true) := ht
    have c1 := (C.out w1 hb1).2.1
    clear ht
    go_wp2_with fail
    go_loopw [11] (fun i wr => ∃ (j : Nat), j ≤ nm.length ∧ i = .int .i64 j ∧ (∀ l, l < j → uniqAt nm l = true) ∧ Ex (w.alloc (.cells #[.int .i64 k, .slice nma nm.length nmc, .string fn, .slice tsa (tlen ts) tsc, .slice tba (blen tb) tbc, .slice tza (tlen tz) tzc, .slice eba (blen eb) ebc, .slice eza (tlen ez) ezc] 102)) wr) (fun i _ => nm.length - (intOf i).toNat)
    case atStart => exact ⟨0, by omega, rfl, fun j hj => by omega, hb1⟩
    case round =>
      obtain ⟨j, hj, rfl, hall, hx⟩ := hrel
      have A : Hid (∀ l, l < j → uniqAt nm l = true) := hall
      have E : Hid (Ex (w.alloc (.cells #[.int .i64 k, .slice nma nm.length nmc, .string fn, .slice tsa (tlen ts) tsc, .slice tba (blen tb) tbc, .slice tza (tlen tz) tzc, .slice eba (blen eb) ebc, .slice eza (tlen ez) ezc] 102)) wr) := hx
      clear hall hb1 c1
      by_cases hlt : j < nm.length
      · have c1 := (C.out wr hx).2.1
        clear hx
        obtain ⟨b, o, rfl, hbs, _, hc⟩ := XA_at (NN.out wr (N.out.trans E.out)) (by omega)
        have ck := hc j hlt
        have K : Hid (∀ w', Ex wr w' → w'.cell? ⟨b, o + j, none⟩ = some (.string (nm.getD j ⟨#[]⟩))) := fun w' h => h.at ck
        have U : Hid (uniqAt nm j = true → ∀ l, l < j + 1 → uniqAt nm l = true) := fun h => upto_succ A.out h
        have V : Hid (uniqAt nm j = false → R = false) := fun h => RR.out.trans (bindB_uniq (uniqB_no hlt h))
        have UA : Hid (uniqAt nm j = (wordB (nm.getD j ⟨#[]⟩) && !hasB (nm.take j) (nm.getD j ⟨#[]⟩))) := rfl
        have XT := fun w' (h : Ex w w') => XA_take (NN.out w' h) j hj
        have LH : Hid (∀ w', Ex wr w' → ∀ c, Calls Tryz.prog 51 #[.slice (some ⟨b, o, none⟩) j c, .string (nm.getD j ⟨#[]⟩)] w' fun e w'' => e = .returned (.bool (hasB (nm.take j) (nm.getD j ⟨#[]⟩))) ∧ Ex w' w'') := fun w' h c => by
          have h3 := XT w' (N.out.trans (E.out.trans h))
          have := l12Has_any (nm.take j) (some ⟨b, o, none⟩) c (nm.getD j ⟨#[]⟩) w' (by omega) h3.1
          rw [h3.2] at this; exact this
        have hjc : j ≤ nmc := by omega
        clear XT hc
        obtain ⟨t, hte⟩ : ∃ t, nm.getD j ⟨#[]⟩ = t := ⟨_, rfl⟩
        obtain ⟨hh, hhe⟩ : ∃ hh, hasB (nm.take j) t = hh := ⟨_, rfl⟩
        rw [hte] at ck K UA LH
        rw [hhe] at UA LH
        clear hte hhe
        have KS : Hid (∀ w', Ex wr w' → (Ex wr w' ∧ w'.cell? ⟨w.heap.size, 1, none⟩ = some (.slice (some ⟨b, o, none⟩) nm.length nmc) ∧ w'.cell? ⟨b, o + j, none⟩ = some (.string t))) := fun w' h => ⟨h, (C.out w' (E.out.trans h)).2.1, K.out w' h⟩
        go_wp2_with fail
        clear c1 ck
        refine wp_region_held_drew (S := fun w' => Ex wr w' ∧ w'.cell? ⟨w.heap.size, 1, none⟩ = some (.slice (some ⟨b, o, none⟩) nm.length nmc) ∧ w'.cell? ⟨b, o + j, none⟩ = some (.string t)) (by kernel_rfl) (KS.out _ (Ex.refl _).drew) (fun hHeld => ?_)
        refine wpAnyH_take (i := 0) (v := ?_) rfl (by kernel_rfl) (by kernel_rfl) (by kernel_rfl) (fun _ _ _ h => h) (Or.inl ⟨by rfl, ?_⟩) (by assumption) ?_
        rotate_left
        · (intro w' hSw; (try dsimp only at hSw); go_simp) <;> with_reducible rfl
        change wpAnyH Tryz.prog _ _ _ _ _ _ (Act.put _ (some 34) _) _
        (try simp only [Act.put, List.setIfInBounds_toArray, List.set_cons_zero, List.set_cons_succ])
        refine wpAnyH_take (i := 1) (v := ?_) rfl (by kernel_rfl) (by kernel_rfl) (by kernel_rfl) (fun _ _ _ h => h) (Or.inl ⟨by rfl, ?_⟩) (by assumption) ?_
        rotate_left
        · (intro w' hSw; (try dsimp only at hSw); go_simp) <;> with_reducible rfl
        change wpAnyH Tryz.prog _ _ _ _ _ _ (Act.put _ (some 35) _) _
        (try simp only [Act.put, List.setIfInBounds_toArray, List.set_cons_zero, List.set_cons_succ])
        refine wpAnyH_take (i := 2) (v := ?_) rfl (by kernel_rfl) (by kernel_rfl) (by kernel_rfl) (fun _ _ _ h => h) (Or.inl ⟨by rfl, ?_⟩) (by assumption) ?_
        rotate_left
        · (intro w' hSw; (try dsimp only at hSw); go_simp) <;> with_reducible rfl
        change wpAnyH Tryz.prog _ _ _ _ _ _ (Act.put _ (some 36) _) _
        (try simp only [Act.put, List.setIfInBounds_toArray, List.set_cons_zero, List.set_cons_succ])
        refine wpAnyH_take (i := 3) (v := ?_) rfl (by kernel_rfl) (by kernel_rfl) (by kernel_rfl) (fun _ _ _ h => h) (Or.inl ⟨by rfl, ?_⟩) (by assumption) ?_
        rotate_left
        · (intro w' hSw; (try dsimp only at hSw); go_simp) <;> with_reducible rfl
        change wpAnyH Tryz.prog _ _ _ _ _ _ (Act.put _ (some 37) _) _
        (try simp only [Act.put, List.setIfInBounds_toArray, List.set_cons_zero, List.set_cons_succ])
        refine wpAnyH_take (i := 4) (v := ?_) rfl (by kernel_rfl) (by kernel_rfl) (by kernel_rfl) (fun _ _ _ h => h) (Or.inl ⟨by rfl, ?_⟩) (by assumption) ?_
        rotate_left
        · (intro w' hSw; (try dsimp only at hSw); go_simp) <;> with_reducible rfl
        change wpAnyH Tryz.prog _ _ _ _ _ _ (Act.put _ (some 38) _) _
        (try simp only [Act.put, List.setIfInBounds_toArray, List.set_cons_zero, List.set_cons_succ])
        refine wpAnyH_ready (rs := [5]) (by kernel_rfl) (by simp) ?_
        refine AllReadyH.cons (i := 5) rfl (fun K hK => ?_) AllReadyH.nil
        go_simp
        refine (l12Word_any t _).mono ?_
        rintro e w2 ⟨rfl, hb2⟩
        have hx2 := Ex.trans (And.left hHeld) hb2
        cases hw : wordB t with
        | false =>
          have HR : Hid (R = false) := V.out (by rw [UA.out, hw]; rfl)
          go_wp2_with fail
          refine hK.out _ _ ?_ (fun hHeld1 => ?_)
          · exact KS.out _ hx2
          clear hK hHeld
          (try simp only [Act.put, List.setIfInBounds_toArray, List.set_cons_zero, List.set_cons_succ])
          refine wpAnyH_take (i := 6) (v := ?_) rfl (by kernel_rfl) (by kernel_rfl) (by kernel_rfl) (fun _ _ _ h => h) (Or.inl ⟨by rfl, ?_⟩) (by assumption) ?_
          rotate_left
          · (intro w' hSw; (try dsimp only at hSw); go_simp) <;> with_reducible rfl
          change wpAnyH Tryz.prog _ _ _ _ _ _ (Act.put _ (some 40) _) _
          (try simp only [Act.put, List.setIfInBounds_toArray, List.set_cons_zero, List.set_cons_succ])
          refine wpAnyH_take (i := 7) (v := ?_) rfl (by kernel_rfl) (by kernel_rfl) (by kernel_rfl) (fun _ _ _ h => h) (Or.inl ⟨by rfl, ?_⟩) (by assumption) ?_
          rotate_left
          · (intro w' hSw; (try dsimp only at hSw); go_simp) <;> with_reducible rfl
          change wpAnyH Tryz.prog _ _ _ _ _ _ (Act.put _ (some 41) _) _
          (try simp only [Act.put, List.setIfInBounds_toArray, List.set_cons_zero, List.set_cons_succ])
          refine wpAnyH_take (i := 8) (v := undef) rfl (by kernel_rfl) (by kernel_rfl) (by kernel_rfl) (fun _ _ _ h => h) (Or.inr ⟨by kernel_rfl, rfl⟩) (by assumption) ?_
          change wpAnyH Tryz.prog _ _ _ _ _ _ (Act.put _ (some 42) _) _
          (try simp only [Act.put, List.setIfInBounds_toArray, List.set_cons_zero, List.set_cons_succ])
          refine wpAnyH_take (i := 9) (v := undef) rfl (by kernel_rfl) (by kernel_rfl) (by kernel_rfl) (fun _ _ _ h => h) (Or.inr ⟨by kernel_rfl, rfl⟩) (by assumption) ?_
          change wpAnyH Tryz.prog _ _ _ _ _ _ (Act.put _ (some 43) _) _
          (try simp only [Act.put, List.setIfInBounds_toArray, List.set_cons_zero, List.set_cons_succ])
          refine wpAnyH_take (i := 10) (v := undef) rfl (by kernel_rfl) (by kernel_rfl) (by kernel_rfl) (fun _ _ _ h => h) (Or.inr ⟨by kernel_rfl, rfl⟩) (by assumption) ?_
          change wpAnyH Tryz.prog _ _ _ _ _ _ (Act.put _ (some 44) _) _
          (try simp only [Act.put, List.setIfInBounds_toArray, List.set_cons_zero, List.set_cons_succ])
          refine wpAnyH_take (i := 11) (v := undef) rfl (by kernel_rfl) (by kernel_rfl) (by kernel_rfl) (fun _ _ _ h => h) (Or.inr ⟨by kernel_rfl, rfl⟩) (by assumption) ?_
          change wpAnyH Tryz.prog _ _ _ _ _ _ (Act.put _ (some 45) _) _
          (try simp only [Act.put, List.setIfInBounds_toArray, List.set_cons_zero, List.set_cons_succ])
          refine wpAnyH_take (i := 12) (v := undef) rfl (by kernel_rfl) (by kernel_rfl) (by kernel_rfl) (fun _ _ _ h => h) (Or.inr ⟨by kernel_rfl, rfl⟩) (by assumption) ?_
          change wpAnyH Tryz.prog _ _ _ _ _ _ (Act.put _ (some 46) _) _
          (try simp only [Act.put, List.setIfInBounds_toArray, List.set_cons_zero, List.set_cons_succ])
          refine wpAnyH_take (i := 13) (v := undef) rfl (by kernel_rfl) (by kernel_rfl) (by kernel_rfl) (fun _ _ _ h => h) (Or.inr ⟨by kernel_rfl, rfl⟩) (by assumption) ?_
          change wpAnyH Tryz.prog _ _ _ _ _ _ (Act.put _ (some 47) _) _
          (try simp only [Act.put, List.setIfInBounds_toArray, List.set_cons_zero, List.set_cons_succ])
          refine wpAnyH_take (i := 14) (v := undef) rfl (by kernel_rfl) (by kernel_rfl) (by kernel_rfl) (fun _ _ _ h => h) (Or.inr ⟨by kernel_rfl, rfl⟩) (by assumption) ?_
          change wpAnyH Tryz.prog _ _ _ _ _ _ (Act.put _ (some 48) _) _
          (try simp only [Act.put, List.setIfInBounds_toArray, List.set_cons_zero, List.set_cons_succ])
          refine wpAnyH_take (i := 15) (v := undef) rfl (by kernel_rfl) (by kernel_rfl) (by kernel_rfl) (fun _ _ _ h => h) (Or.inr ⟨by kernel_rfl, rfl⟩) (by assumption) ?_
          change wpAnyH Tryz.prog _ _ _ _ _ _ (Act.put _ (some 49) _) _
          (try simp only [Act.put, List.setIfInBounds_toArray, List.set_cons_zero, List.set_cons_succ])
          refine wpAnyH_take (i := 16) (v := undef) rfl (by kernel_rfl) (by kernel_rfl) (by kernel_rfl) (fun _ _ _ h => h) (Or.inr ⟨by kernel_rfl, rfl⟩) (by assumption) ?_
          change wpAnyH Tryz.prog _ _ _ _ _ _ (Act.put _ (some 50) _) _
          (try simp only [Act.put, List.setIfInBounds_toArray, List.set_cons_zero, List.set_cons_succ])
          refine wpAnyH_take (i := 17) (v := undef) rfl (by kernel_rfl) (by kernel_rfl) (by kernel_rfl) (fun _ _ _ h => h) (Or.inr ⟨by kernel_rfl, rfl⟩) (by assumption) ?_
          change wpAnyH Tryz.prog _ _ _ _ _ _ (Act.put _ (some 51) _) _
          (try simp only [Act.put, List.setIfInBounds_toArray, List.set_cons_zero, List.set_cons_succ])
          refine wpAnyH_take (i := 18) (v := ?_) rfl (by kernel_rfl) (by kernel_rfl) (by kernel_rfl) (fun _ _ _ h => h) (Or.inl ⟨by rfl, ?_⟩) (by assumption) ?_
          rotate_left
          · (intro w' hSw; (try dsimp only at hSw); go_simp) <;> with_reducible rfl
          change wpAnyH Tryz.prog _ _ _ _ _ _ (Act.put _ (some 52) _) _
          (try simp only [Act.put, List.setIfInBounds_toArray, List.set_cons_zero, List.set_cons_succ])
          refine wpAnyH_done (by kernel_rfl) ?_ _
          go_wp2_with fail
          go_ret
          exact ⟨ret_b HR.out.symm, N.out.trans (E.out.trans hx2)⟩
        | true =>
          have HW : Hid (wordB t = true) := hw
          clear hw
          go_wp2_with fail
          refine hK.out _ _ ?_ (fun hHeld1 => ?_)
          · exact KS.out _ hx2
          clear hK hHeld
          (try simp only [Act.put, List.setIfInBounds_toArray, List.set_cons_zero, List.set_cons_succ])
          refine wpAnyH_take (i := 6) (v := ?_) rfl (by kernel_rfl) (by kernel_rfl) (by kernel_rfl) (fun _ _ _ h => h) (Or.inl ⟨by rfl, ?_⟩) (by assumption) ?_
          rotate_left
          · (intro w' hSw; (try dsimp only at hSw); go_simp) <;> with_reducible rfl
          change wpAnyH Tryz.prog _ _ _ _ _ _ (Act.put _ (some 40) _) _
          (try simp only [Act.put, List.setIfInBounds_toArray, List.set_cons_zero, List.set_cons_succ])
          refine wpAnyH_take (i := 7) (v := ?_) rfl (by kernel_rfl) (by kernel_rfl) (by kernel_rfl) (fun _ _ _ h => h) (Or.inl ⟨by rfl, ?_⟩) (by assumption) ?_
          rotate_left
          · (intro w' hSw; (try dsimp only at hSw); go_simp) <;> with_reducible rfl
          change wpAnyH Tryz.prog _ _ _ _ _ _ (Act.put _ (some 41) _) _
          (try simp only [Act.put, List.setIfInBounds_toArray, List.set_cons_zero, List.set_cons_succ])
          refine wpAnyH_take (i := 8) (v := ?_) rfl (by kernel_rfl) (by kernel_rfl) (by kernel_rfl) (fun _ _ _ h => h) (Or.inl ⟨by rfl, ?_⟩) (by assumption) ?_
          rotate_left
          · (intro w' hSw; (try dsimp only at hSw); go_simp) <;> with_reducible rfl
          change wpAnyH Tryz.prog _ _ _ _ _ _ (Act.put _ (some 42) _) _
          (try simp only [Act.put, List.setIfInBounds_toArray, List.set_cons_zero, List.set_cons_succ])
          refine wpAnyH_take (i := 9) (v := ?_) rfl (by kernel_rfl) (by kernel_rfl) (by kernel_rfl) (fun _ _ _ h => h) (Or.inl ⟨by rfl, ?_⟩) (by assumption) ?_
          rotate_left
          · (intro w' hSw; (try dsimp only at hSw); go_simp) <;> with_reducible rfl
          change wpAnyH Tryz.prog _ _ _ _ _ _ (Act.put _ (some 43) _) _
          (try simp only [Act.put, List.setIfInBounds_toArray, List.set_cons_zero, List.set_cons_succ])
          refine wpAnyH_take (i := 10) (v := ?_) rfl (by kernel_rfl) (by kernel_rfl) (by kernel_rfl) (fun _ _ _ h => h) (Or.inl ⟨by rfl, ?_⟩) (by assumption) ?_
          rotate_left
          · (intro w' hSw; (try dsimp only at hSw); go_simp) <;> with_reducible rfl
          change wpAnyH Tryz.prog _ _ _ _ _ _ (Act.put _ (some 44) _) _
          (try simp only [Act.put, List.setIfInBounds_toArray, List.set_cons_zero, List.set_cons_succ])
          refine wpAnyH_take (i := 11) (v := ?_) rfl (by kernel_rfl) (by kernel_rfl) (by kernel_rfl) (fun _ _ _ h => h) (Or.inl ⟨by rfl, ?_⟩) (by assumption) ?_
          rotate_left
          · (intro w' hSw; (try dsimp only at hSw); go_simp) <;> with_reducible rfl
          change wpAnyH Tryz.prog _ _ _ _ _ _ (Act.put _ (some 45) _) _
          (try simp only [Act.put, List.setIfInBounds_toArray, List.set_cons_zero, List.set_cons_succ])
          refine wpAnyH_take (i := 12) (v := ?_) rfl (by kernel_rfl) (by kernel_rfl) (by kernel_rfl) (fun _ _ _ h => h) (Or.inl ⟨by rfl, ?_⟩) (by assumption) ?_
          rotate_left
          · (intro w' hSw; (try dsimp only at hSw); go_simp) <;> with_reducible rfl
          change wpAnyH Tryz.prog _ _ _ _ _ _ (Act.put _ (some 46) _) _
          (try simp only [Act.put, List.setIfInBounds_toArray, List.set_cons_zero, List.set_cons_succ])
          refine wpAnyH_take (i := 13) (v := ?_) rfl (by kernel_rfl) (by kernel_rfl) (by kernel_rfl) (fun _ _ _ h => h) (Or.inl ⟨by rfl, ?_⟩) (by assumption) ?_
          rotate_left
          · (intro w' hSw; (try dsimp only at hSw); go_simp) <;> with_reducible rfl
          change wpAnyH Tryz.prog _ _ _ _ _ _ (Act.put _ (some 47) _) _
          (try simp only [Act.put, List.setIfInBounds_toArray, List.set_cons_zero, List.set_cons_succ])
          refine wpAnyH_take (i := 14) (v := ?_) rfl (by kernel_rfl) (by kernel_rfl) (by kernel_rfl) (fun _ _ _ h => h) (Or.inl ⟨by rfl, ?_⟩) (by assumption) ?_
          rotate_left
          · (intro w' hSw; (try dsimp only at hSw); go_simp) <;> with_reducible rfl
          change wpAnyH Tryz.prog _ _ _ _ _ _ (Act.put _ (some 48) _) _
          (try simp only [Act.put, List.setIfInBounds_toArray, List.set_cons_zero, List.set_cons_succ])
          refine wpAnyH_take (i := 15) (v := ?_) rfl (by kernel_rfl) (by kernel_rfl) (by kernel_rfl) (fun _ _ _ h => h) (Or.inl ⟨by rfl, ?_⟩) (by assumption) ?_
          rotate_left
          · (intro w' hSw; (try dsimp only at hSw); go_simp) <;> with_reducible rfl
          change wpAnyH Tryz.prog _ _ _ _ _ _ (Act.put _ (some 49) _) _
          (try simp only [Act.put, List.setIfInBounds_toArray, List.set_cons_zero, List.set_cons_succ])
          refine wpAnyH_take (i := 16) (v := ?_) rfl (by kernel_rfl) (by kernel_rfl) (by kernel_rfl) (fun _ _ _ h => h) (Or.inl ⟨by rfl, ?_⟩) (by assumption) ?_
          rotate_left
          · (intro w' hSw; (try dsimp only at hSw); go_simp) <;> with_reducible rfl
          change wpAnyH Tryz.prog _ _ _ _ _ _ (Act.put _ (some 50) _) _
          (try simp only [Act.put, List.setIfInBounds_toArray, List.set_cons_zero, List.set_cons_succ])
          refine wpAnyH_ready (rs := [17]) (by kernel_rfl) (by simp) ?_
          refine AllReadyH.cons (i := 17) rfl (fun K hK => ?_) AllReadyH.nil
          go_simp
          refine (LH.out _ hx2 _).mono ?_
          rintro e w3 ⟨rfl, hb3⟩
          have hx3 := hx2.trans hb3
          cases hh with
          | true =>
            have HR : Hid (R = false) := V.out (by rw [UA.out, HW.out]; rfl)
            go_wp2_with fail
            refine hK.out _ _ ?_ (fun hHeld2 => ?_)
            · exact KS.out _ hx3
            clear hK hHeld1
            (try simp only [Act.put, List.setIfInBounds_toArray, List.set_cons_zero, List.set_cons_succ])
            refine wpAnyH_take (i := 18) (v := ?_) rfl (by kernel_rfl) (by kernel_rfl) (by kernel_rfl) (fun _ _ _ h => h) (Or.inl ⟨by rfl, ?_⟩) (by assumption) ?_
            rotate_left
            · (intro w' hSw; (try dsimp only at hSw); go_simp) <;> with_reducible rfl
            change wpAnyH Tryz.prog _ _ _ _ _ _ (Act.put _ (some 52) _) _
            (try simp only [Act.put, List.setIfInBounds_toArray, List.set_cons_zero, List.set_cons_succ])
            refine wpAnyH_done (by kernel_rfl) ?_ _
            go_wp2_with fail
            go_ret
            exact ⟨ret_b HR.out.symm, N.out.trans (E.out.trans hx3)⟩
          | false =>
            have HU : Hid _ := U.out (by rw [UA.out, HW.out]; rfl)
            go_wp2_with fail
            refine hK.out _ _ ?_ (fun hHeld2 => ?_)
            · exact KS.out _ hx3
            clear hK hHeld1
            (try simp only [Act.put, List.setIfInBounds_toArray, List.set_cons_zero, List.set_cons_succ])
            refine wpAnyH_take (i := 18) (v := ?_) rfl (by kernel_rfl) (by kernel_rfl) (by kernel_rfl) (fun _ _ _ h => h) (Or.inl ⟨by rfl, ?_⟩) (by assumption) ?_
            rotate_left
            · (intro w' hSw; (try dsimp only at hSw); go_simp) <;> with_reducible rfl
            change wpAnyH Tryz.prog _ _ _ _ _ _ (Act.put _ (some 52) _) _
            (try simp only [Act.put, List.setIfInBounds_toArray, List.set_cons_zero, List.set_cons_succ])
            refine wpAnyH_done (by kernel_rfl) ?_ _
            go_wp2_with fail
            go_roundw
            case rel => exact ⟨j + 1, by omega, by go_num, HU.out, E.out.trans hx3⟩
            case measure => simp [intOf]; omega
      · have HR : Hid (R = kindB (l.take at_) rec ns k nm fn ts tb tz eb ez) := RR.out.trans (bindB_kind (by omega) HT.out (uniqB_yes fun i hi => A.out i (by omega)))
        obtain ⟨c0, c1, c2, c3, c4, c5, c6, c7⟩ := C.out wr hx
        clear hx A RR HT NN T
        --TAIL
        by_cases k1 : k = 1
        · subst k1
          by_cases hS : blen tb + tlen tz + blen eb + tlen ez = 0
          · have s0 : ((blen tb : Int) + (tlen tz : Int) + (blen eb : Int) + (tlen ez : Int) == 0) = true := by rw [beq_iff_eq]; omega
            by_cases hF : fn.size = 0
            · have f0 : fn.toList.isEmpty = true := empty_size hF
              by_cases hn : nm.length = 1
              · have hn1 : ((nm.length : Int) == 1) = true := by rw [beq_iff_eq]; omega
                by_cases ht : tlen ts = 1
                · have ht1 : ((tlen ts : Int) == 1) = true := by rw [beq_iff_eq]; omega
                  have HV : Hid (R = true) := HR.out.trans (by rw [kindB_1, decide_eq_true hS, decide_eq_true hF, decide_eq_true hn, decide_eq_true ht]; rfl)
                  go_wp2_with fail
                  go_ret
                  exact ⟨ret_b HV.out.symm, N.out.trans E.out⟩
                · have ht1 : ((tlen ts : Int) == 1) = false := by rw [beq_eq_false_iff_ne]; omega
                  have HV : Hid (R = false) := HR.out.trans (by rw [kindB_1, decide_eq_true hS, decide_eq_true hF, decide_eq_true hn, decide_eq_false ht]; rfl)
                  go_wp2_with fail
                  go_ret
                  exact ⟨ret_b HV.out.symm, N.out.trans E.out⟩
              · have hn1 : ((nm.length : Int) == 1) = false := by rw [beq_eq_false_iff_ne]; omega
                have HV : Hid (R = false) := HR.out.trans (by rw [kindB_1, decide_eq_true hS, decide_eq_true hF, decide_eq_false hn]; rfl)
                go_wp2_with fail
                go_ret
                exact ⟨ret_b HV.out.symm, N.out.trans E.out⟩
            · have f0 : fn.toList.isEmpty = false := full_size hF
              have HV : Hid (R = false) := HR.out.trans (by rw [kindB_1, decide_eq_true hS, decide_eq_false hF]; rfl)
              go_wp2_with fail
              go_ret
              exact ⟨ret_b HV.out.symm, N.out.trans E.out⟩
          · have s0 : ((blen tb : Int) + (tlen tz : Int) + (blen eb : Int) + (tlen ez : Int) == 0) = false := by rw [beq_eq_false_iff_ne]; omega
            have HV : Hid (R = false) := HR.out.trans (by rw [kindB_1, decide_eq_false hS]; rfl)
            go_wp2_with fail
            go_ret
            exact ⟨ret_b HV.out.symm, N.out.trans E.out⟩
        by_cases k2 : k = 2
        · subst k2
          go_wp2_with fail
          refine (l12Arity_any l la lc at_ fn _ hat hl (Q.out _ (N.out.trans E.out))).mono ?_
          rintro e w4 ⟨rfl, hb4⟩
          obtain ⟨⟨g, sd, ok⟩, hg⟩ : ∃ g, arityR (l.take at_) fn = g := ⟨_, rfl⟩
          have G : Hid (arityR (l.take at_) fn = (g, sd, ok)) := hg
          rw [hg]
          obtain ⟨c0, c1, c2, c3, c4, c5, c6, c7⟩ := C.out w4 (E.out.trans hb4)
          clear hg
          by_cases hS : blen tb + tlen tz + blen eb + tlen ez = 0
          · have s0 : ((blen tb : Int) + (tlen tz : Int) + (blen eb : Int) + (tlen ez : Int) == 0) = true := by rw [beq_iff_eq]; omega
            cases ok with
            | false =>
              have HV : Hid (R = false) := HR.out.trans (by rw [kindB_2, decide_eq_true hS, G.out]; rfl)
              go_wp2_with fail
              go_ret
              exact ⟨ret_b HV.out.symm, N.out.trans (E.out.trans hb4)⟩
            | true =>
              by_cases hg : g = tlen ts
              · have hg1 : ((g : Int) == (tlen ts : Int)) = true := by rw [beq_iff_eq]; omega
                by_cases hs : sd = nm.length
                · have hs1 : ((sd : Int) == (nm.length : Int)) = true := by rw [beq_iff_eq]; omega
                  have HV : Hid (R = true) := HR.out.trans (by rw [kindB_2, decide_eq_true hS, G.out, decide_eq_true hg, decide_eq_true hs]; rfl)
                  go_wp2_with fail
                  go_ret
                  exact ⟨ret_b HV.out.symm, N.out.trans (E.out.trans hb4)⟩
                · have hs1 : ((sd : Int) == (nm.length : Int)) = false := by rw [beq_eq_false_iff_ne]; omega
                  have HV : Hid (R = false) := HR.out.trans (by rw [kindB_2, decide_eq_true hS, G.out, decide_eq_true hg, decide_eq_false hs]; rfl)
                  go_wp2_with fail
                  go_ret
                  exact ⟨ret_b HV.out.symm, N.out.trans (E.out.trans hb4)⟩
              · have hg1 : ((g : Int) == (tlen ts : Int)) = false := by rw [beq_eq_false_iff_ne]; omega
                have HV : Hid (R = false) := HR.out.trans (by rw [kindB_2, decide_eq_true hS, G.out, decide_eq_false hg]; rfl)
                go_wp2_with fail
                go_ret
                exact ⟨ret_b HV.out.symm, N.out.trans (E.out.trans hb4)⟩
          · have s0 : ((blen tb : Int) + (tlen tz : Int) + (blen eb : Int) + (tlen ez : Int) == 0) = false := by rw [beq_eq_false_iff_ne]; omega
            have HV : Hid (R = false) := HR.out.trans (by rw [kindB_2, decide_eq_false hS]; rfl)
            go_wp2_with fail
            go_ret
            exact ⟨ret_b HV.out.symm, N.out.trans (E.out.trans hb4)⟩
        by_cases k3 : k = 3
        · subst k3
          by_cases hF : fn.size = 0
          · have f0 : fn.toList.isEmpty = true := empty_size hF
            by_cases ht : tlen ts = 1
            · have ht1 : ((tlen ts : Int) == 1) = true := by rw [beq_iff_eq]; omega
              obtain ⟨r1, hr1⟩ : ∃ r, rec ns tb tz = r := ⟨_, rfl⟩
              obtain ⟨r2, hr2⟩ : ∃ r, rec ns eb ez = r := ⟨_, rfl⟩
              have R1 : Hid (rec ns tb tz = r1) := hr1
              have R2 : Hid (rec ns eb ez = r2) := hr2
              have b1 := B1.out
              have b2 := B2.out
              rw [hr1] at b1
              rw [hr2] at b2
              have BB1 : Hid _ := b1
              have BB2 : Hid _ := b2
              clear hr1 hr2 b1 b2
              go_wp2_with fail
              refine (BB1.out _ (N.out.trans E.out)).mono ?_
              rintro e w4 ⟨rfl, hb4⟩
              obtain ⟨c0, c1, c2, c3, c4, c5, c6, c7⟩ := C.out w4 (E.out.trans hb4)
              cases r1 with
              | false =>
                have HV : Hid (R = false) := HR.out.trans (by rw [kindB_3, decide_eq_true hF, decide_eq_true ht, R1.out]; rfl)
                go_wp2_with fail
                go_ret
                exact ⟨ret_b HV.out.symm, N.out.trans (E.out.trans hb4)⟩
              | true =>
                go_wp2_with fail
                refine (BB2.out _ (N.out.trans (E.out.trans hb4))).mono ?_
                rintro e w5 ⟨rfl, hb5⟩
                obtain ⟨c0, c1, c2, c3, c4, c5, c6, c7⟩ := C.out w5 (E.out.trans (hb4.trans hb5))
                cases r2 with
                | false =>
                  have HV : Hid (R = false) := HR.out.trans (by rw [kindB_3, decide_eq_true hF, decide_eq_true ht, R1.out, R2.out]; rfl)
                  go_wp2_with fail
                  go_ret
                  exact ⟨ret_b HV.out.symm, N.out.trans (E.out.trans (hb4.trans hb5))⟩
                | true =>
                  by_cases hz : tlen tz = nm.length
                  · have hz1 : ((tlen tz : Int) == (nm.length : Int)) = true := by rw [beq_iff_eq]; omega
                    by_cases he : tlen ez = nm.length
                    · have he1 : ((tlen ez : Int) == (nm.length : Int)) = true := by rw [beq_iff_eq]; omega
                      have HV : Hid (R = true) := HR.out.trans (by rw [kindB_3, decide_eq_true hF, decide_eq_true ht, R1.out, R2.out, decide_eq_true hz, decide_eq_true he]; rfl)
                      go_wp2_with fail
                      go_ret
                      exact ⟨ret_b HV.out.symm, N.out.trans (E.out.trans (hb4.trans hb5))⟩
                    · have he1 : ((tlen ez : Int) == (nm.length : Int)) = false := by rw [beq_eq_false_iff_ne]; omega
                      have HV : Hid (R = false) := HR.out.trans (by rw [kindB_3, decide_eq_true hF, decide_eq_true ht, R1.out, R2.out, decide_eq_true hz, decide_eq_false he]; rfl)
                      go_wp2_with fail
                      go_ret
                      exact ⟨ret_b HV.out.symm, N.out.trans (E.out.trans (hb4.trans hb5))⟩
                  · have hz1 : ((tlen tz : Int) == (nm.length : Int)) = false := by rw [beq_eq_false_iff_ne]; omega
                    have HV : Hid (R = false) := HR.out.trans (by rw [kindB_3, decide_eq_true hF, decide_eq_true ht, R1.out, R2.out, decide_eq_false hz]; rfl)
                    go_wp2_with fail
                    go_ret
                    exact ⟨ret_b HV.out.symm, N.out.trans (E.out.trans (hb4.trans hb5))⟩
            · have ht1 : ((tlen ts : Int) == 1) = false := by rw [beq_eq_false_iff_ne]; omega
              have HV : Hid (R = false) := HR.out.trans (by rw [kindB_3, decide_eq_true hF, decide_eq_false ht]; rfl)
              go_wp2_with fail
              go_ret
              exact ⟨ret_b HV.out.symm, N.out.trans E.out⟩
          · have f0 : fn.toList.isEmpty = false := full_size hF
            have HV : Hid (R = false) := HR.out.trans (by rw [kindB_3, decide_eq_false hF]; rfl)
            go_wp2_with fail
            go_ret
            exact ⟨ret_b HV.out.symm, N.out.trans E.out⟩
        have q1 : (k == 1) = false := by rw [beq_eq_false_iff_ne]; exact k1
        have q2 : (k == 2) = false := by rw [beq_eq_false_iff_ne]; exact k2
        have q3 : (k == 3) = false := by rw [beq_eq_false_iff_ne]; exact k3
        have HV : Hid (R = false) := HR.out.trans (kindB_o k1 k2 k3)
        go_wp2_with fail
        go_ret
        exact ⟨ret_b HV.out.symm, N.out.trans E.out⟩

end Go.Proofs.YtgpdnoghlommeaaGreatDoor
