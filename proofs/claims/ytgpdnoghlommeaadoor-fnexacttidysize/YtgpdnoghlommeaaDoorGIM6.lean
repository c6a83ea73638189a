/- Walks: the program's terms that are ok by names. Walks: what the exact laws do with types. Walks: a type of the laws turned into one of the program. Walks: numbers copied, compared and written over; types gone through by the exact laws. Cells of a block, set one behind the other. Walks: functions by name, and bindings that have just what their kinds say. -/
import Derived.Test.YtgpdnoghlommeaaDoorGIM4
import Derived.Test.YtgpdnoghlommeaaDoorGW7
import Derived.Test.YtgpdnoghlommeaaDoorGBD5
namespace Go.Proofs.YtgpdnoghlommeaaDoor

open Go.RowKit Go.Deep Go.Maps Go.WideMaps

attribute [local go_sem ↓] Go.wp_at_zero Go.wp_at_succ

theorem pathB_none {p : List Int} (h : p.length = 0) : pathB p = true := by
  have := List.length_eq_zero_iff.mp h
  subst this; rfl
theorem own_tok (ns : List ByteArray) (k n : Int) (s : ByteArray) (p : List Int) (l : Nat) : ((decide (l ≤ 2) && decide (p.length ≤ 4)) && (pathB p && ownB ns k n s p l)) = (tokB k n s p l && (!decide (k = 2) || hasB ns s)) := by
  by_cases k1 : k = 1
  · subst k1
    by_cases hs : s.size = 0
    · by_cases hp : p.length = 0
      · rw [ownB_1 hs hp, tokB_1, pathB_none hp, decide_eq_true hs, decide_eq_true hp, decide_eq_true (show p.length ≤ 4 by omega)]
        by_cases hl : l = 0
        · subst hl; simp
        · simp [hl]
      · rw [ownB_p (by decide) hp, tokB_1, decide_eq_true hs, decide_eq_false hp]; simp
    · rw [ownB_s (by decide) hs, tokB_1, decide_eq_false hs]; simp
  by_cases k2 : k = 2
  · subst k2
    by_cases hn : n = 0
    · by_cases hp : p.length = 0
      · rw [ownB_2 hn hp, tokB_2, pathB_none hp, decide_eq_true hn, decide_eq_true hp, decide_eq_true (show p.length ≤ 4 by omega)]
        by_cases hl : l = 0
        · subst hl; simp
        · simp [hl]
      · rw [ownB_p (by decide) hp, tokB_2, decide_eq_true hn, decide_eq_false hp]; simp
    · rw [ownB_n (by decide) hn, tokB_2, decide_eq_false hn]; simp
  rw [decide_eq_false k2]
  by_cases k7 : k = 7
  · subst k7
    by_cases hn : n = 0
    · by_cases hs : s.size = 0
      · rw [ownB_7 hn hs, tokB_7, decide_eq_true hn, decide_eq_true hs]
        by_cases hl : l = 1
        · subst hl; simp
        · simp [hl]
      · rw [ownB_s (by decide) hs, tokB_7, decide_eq_true hn, decide_eq_false hs]; simp
    · rw [ownB_n (by decide) hn, tokB_7, decide_eq_false hn]; simp
  by_cases k8 : k = 8
  · subst k8
    by_cases hn : n = 0
    · by_cases hs : s.size = 0
      · rw [ownB_8 hn hs, tokB_8, decide_eq_true hn, decide_eq_true hs]
        by_cases hl : l = 2
        · subst hl; simp
        · simp [hl]
      · rw [ownB_s (by decide) hs, tokB_8, decide_eq_true hn, decide_eq_false hs]; simp
    · rw [ownB_n (by decide) hn, tokB_8, decide_eq_false hn]; simp
  by_cases hk : k = 3 ∨ k = 4 ∨ k = 5 ∨ k = 6
  · rw [tokB_3 hk]
    by_cases hn : n = 0
    · by_cases hs : s.size = 0
      · by_cases hp : p.length = 0
        · rw [ownB_o k1 k2 k7 hn hs hp, pathB_none hp, decide_eq_true hn, decide_eq_true hs, decide_eq_true hp, decide_eq_true (show p.length ≤ 4 by omega), decide_eq_true (show 3 ≤ k ∧ k ≤ 8 by omega)]
          by_cases hl : l = 2
          · subst hl; simp
          · simp [hl]
        · rw [ownB_p (by omega) hp, decide_eq_true hn, decide_eq_true hs, decide_eq_false hp]; simp
      · rw [ownB_s k2 hs, decide_eq_true hn, decide_eq_false hs]; simp
    · rw [ownB_n k1 hn, decide_eq_false hn]; simp
  · rw [tokB_o (by omega)]
    by_cases hn : n = 0
    · by_cases hs : s.size = 0
      · by_cases hp : p.length = 0
        · rw [ownB_o k1 k2 k7 hn hs hp, decide_eq_false (show ¬ (3 ≤ k ∧ k ≤ 8) by omega)]; simp
        · rw [ownB_p (by omega) hp]; simp
      · rw [ownB_s k2 hs]; simp
    · rw [ownB_n k1 hn]; simp

/-- All terms of a list are ok by names. -/
def kidsB (ns : List ByteArray) (d : Nat) (f : TM) : Bool := (List.range (tlen f)).all fun i => kidB ns d f i
theorem kidsB_no {ns : List ByteArray} {d : Nat} {f : TM} {i : Nat} (h : i < tlen f) (hb : kidB ns d f i = false) : kidsB ns d f = false := by
  simp only [kidsB]
  rw [List.all_eq_false]
  exact ⟨i, List.mem_range.2 h, by rw [hb]; simp⟩
theorem kidsB_yes {ns : List ByteArray} {d : Nat} {f : TM} (h : ∀ i, i < tlen f → kidB ns d f i = true) : kidsB ns d f = true := by
  simp only [kidsB]
  rw [List.all_eq_true]
  exact fun i hi => h i (List.mem_range.1 hi)
theorem termB_tok (ns : List ByteArray) (d : Nat) (k n : Int) (s : ByteArray) (p : List Int) (f : TM) : termB ns (d + 1) k n s p f = (tokB k n s p (tlen f) && ((!decide (k = 2) || hasB ns s) && kidsB ns d f)) := by
  have h := own_tok ns k n s p (tlen f)
  show ((decide (tlen f ≤ 2) && decide (p.length ≤ 4)) && (kidsB ns d f && (pathB p && ownB ns k n s p (tlen f)))) = _
  rw [← Bool.and_assoc (tokB _ _ _ _ _), ← h]
  cases kidsB ns d f <;> simp

/-- The fault, and none. -/
abbrev EV (ea : Addr) : Value := .iface 125 (.pointer (some ea))
def errV (ea : Addr) (ok : Bool) : Value := if ok then .nilIface else EV ea
def ErrP (ea : Addr) (ok : Bool) (w : World) (e : Ending) (w' : World) : Prop := e = .returned (errV ea ok) ∧ Ex w w'

set_option maxRecDepth 100000 in
set_option maxHeartbeats 2000000 in
theorem term_by (ea : Addr) (aa : Option Addr) (al ac mb m : Nat) (ns : List ByteArray) (k n : Int) (s : ByteArray) (p : List Int) (pa : Option Addr) (pc : Nat) (f : TM) (a : Option Addr) (c d : Nat) (hd : d ≤ 1000) (w : World)
    (hG : w.cell? ⟨0, 0, none⟩ = some (EV ea)) (hC : CM w mb m ns) (hs : s.size ≤ 9223372036854775807) (hP : PA w 0 p pa)
    (hK : ∀ w', Ex w w' → Calls Tryd.prog 57 #[.agg #[.slice aa al ac, .map (some mb)], .slice a (tlen f) c, .int .i64 d] w' (ErrP ea (kidsB ns d f) w')) :
    Calls Tryd.prog 62 #[.agg #[.slice aa al ac, .map (some mb)], .agg #[.int .i64 k, .int .i64 n, .string s, .slice pa p.length pc, .slice a (tlen f) c], .int .i64 (d + 1 : Nat)] w (ErrP ea (termB ns (d + 1) k n s p f) w) := by
  have G : Hid (∀ w', Ex w w' → w'.cell? ⟨0, 0, none⟩ = some (EV ea)) := fun w' h => h.at hG
  have CC : Hid (∀ w', Ex w w' → CM w' mb m ns) := fun w' h => hC.ex h
  have P : Hid (∀ w', Ex w w' → PA w' 0 p pa) := fun _ h => PA_below hP h
  have K : Hid _ := hK
  have SZ : Hid _ := hs
  have N : Hid (Ex w ((w.alloc (.cells #[.slice aa al ac, .map (some mb)] 106)).alloc (.cells #[.int .i64 k, .int .i64 n, .string s, .slice pa p.length pc, .slice a (tlen f) c] 87))) := (Ex.new _ _).alloc _
  have C : Hid (∀ w', Ex ((w.alloc (.cells #[.slice aa al ac, .map (some mb)] 106)).alloc (.cells #[.int .i64 k, .int .i64 n, .string s, .slice pa p.length pc, .slice a (tlen f) c] 87)) w' → w'.cell? ⟨w.heap.size, 0, none⟩ = some (.slice aa al ac) ∧ w'.cell? ⟨w.heap.size, 1, none⟩ = some (.map (some mb)) ∧ w'.cell? ⟨w.heap.size + 1, 0, none⟩ = some (.int .i64 k) ∧ w'.cell? ⟨w.heap.size + 1, 1, none⟩ = some (.int .i64 n) ∧ w'.cell? ⟨w.heap.size + 1, 2, none⟩ = some (.string s) ∧ w'.cell? ⟨w.heap.size + 1, 3, none⟩ = some (.slice pa p.length pc) ∧ w'.cell? ⟨w.heap.size + 1, 4, none⟩ = some (.slice a (tlen f) c)) := fun w' h => ⟨h.at (by simp), h.at (by simp), h.at (by simp), h.at (by simp), h.at (by simp), h.at (by simp), h.at (by simp)⟩
  have HT : Hid (termB ns (d + 1) k n s p f = (tokB k n s p (tlen f) && ((!decide (k = 2) || hasB ns s) && kidsB ns d f))) := termB_tok ns d k n s p f
  obtain ⟨R, hR⟩ : ∃ R, R = termB ns (d + 1) k n s p f := ⟨_, rfl⟩
  rw [← hR] at HT ⊢
  obtain ⟨bt, hbt⟩ : ∃ b, tokB k n s p (tlen f) = b := ⟨_, rfl⟩
  have TO : Hid (∀ w', Ex w w' → Calls Tryd.prog 64 #[.agg #[.int .i64 k, .int .i64 n, .string s, .slice pa p.length pc, .slice a (tlen f) c]] w' fun e w'' => e = .returned (.bool bt) ∧ Ex w' w'') := fun w' h => by have := termOk_any k n s p pa pc (tlen f) a c w' (P.out w' h); rw [hbt] at this; exact this
  rw [hbt] at HT
  obtain ⟨D, hD⟩ : ∃ D : Int, D = ((d + 1 : Nat) : Int) := ⟨_, rfl⟩
  rw [← hD]
  have d0 : (D == 0) = false := by rw [beq_eq_false_iff_ne]; omega
  have d3 : D - 1 = (d : Int) := by omega
  have d4 : IntKind.i64.wrap (D - 1) = (d : Int) := by rw [d3]; exact IntWalk.i64_in _ (by omega)
  clear hR hbt hG hC hP hK hs hD P
  go_enter Tryd.func62, Tryd.ntmps62
  go_wp2_with fail
  refine (TO.out _ N.out).mono ?_
  rintro e w1 ⟨rfl, hb1⟩
  have X1 : Hid (Ex ((w.alloc (.cells #[.slice aa al ac, .map (some mb)] 106)).alloc (.cells #[.int .i64 k, .int .i64 n, .string s, .slice pa p.length pc, .slice a (tlen f) c] 87)) w1) := hb1
  obtain ⟨c0, c1, c2, c3, c4, c5, c6⟩ := C.out w1 hb1
  have g0 := G.out w1 (N.out.trans hb1)
  clear hb1 TO
  cases bt with
  | false =>
    have HR : Hid (R = false) := HT.out
    go_wp2_with fail
    go_ret
    exact ⟨by rw [HR.out]; rfl, N.out.trans X1.out⟩
  | true =>
    have FIN : Hid (∀ w', Ex ((w.alloc (.cells #[.slice aa al ac, .map (some mb)] 106)).alloc (.cells #[.int .i64 k, .int .i64 n, .string s, .slice pa p.length pc, .slice a (tlen f) c] 87)) w' → R = kidsB ns d f → Calls Tryd.prog 57 #[.agg #[.slice aa al ac, .map (some mb)], .slice a (tlen f) c, .int .i64 d] w' (ErrP ea R w')) := fun w' h hr => by rw [hr]; exact K.out w' (N.out.trans h)
    clear K
    by_cases k2 : k = 2
    · have q2 : (k == 2) = true := by rw [beq_iff_eq]; exact k2
      have hrun := (CC.out w1 (N.out.trans X1.out)).look SZ.out
      have hcl := cntN_le ns s
      have HB : Hid (hasB ns s = decide (cntN ns s ≠ 0)) := cntN_has _ _
      have HT2 : Hid (R = (hasB ns s && kidsB ns d f)) := HT.out.trans (by rw [decide_eq_true k2]; rfl)
      have K2 : Hid (k = 2) := k2
      obtain ⟨cn, hce⟩ : ∃ cn, cntN ns s = cn := ⟨_, rfl⟩
      rw [hce] at hrun hcl HB
      clear hce k2
      by_cases h0 : cn = 0
      · have e0 : ((cn : Int) == 0) = true := by rw [beq_iff_eq]; omega
        have HR : Hid (R = false) := HT2.out.trans (by rw [HB.out, decide_eq_false (by omega)]; rfl)
        clear h0
        go_wp2_with fail
        go_ret
        exact ⟨by rw [HR.out]; rfl, N.out.trans X1.out⟩
      · have e0 : ((cn : Int) == 0) = false := by rw [beq_eq_false_iff_ne]; omega
        have HR : Hid (R = kidsB ns d f) := HT2.out.trans (by rw [HB.out, decide_eq_true h0]; rfl)
        clear h0
        go_wp2_with fail
        refine (FIN.out _ X1.out HR.out).mono ?_
        rintro e w2 ⟨rfl, hb2⟩
        go_wp2_with fail
        go_ret
        exact ⟨rfl, N.out.trans (X1.out.trans hb2)⟩
    · have q2 : (k == 2) = false := by rw [beq_eq_false_iff_ne]; exact k2
      have HR : Hid (R = kidsB ns d f) := HT.out.trans (by rw [decide_eq_false k2]; rfl)
      go_wp2_with fail
      refine (FIN.out _ X1.out HR.out).mono ?_
      rintro e w2 ⟨rfl, hb2⟩
      go_wp2_with fail
      go_ret
      exact ⟨rfl, N.out.trans (X1.out.trans hb2)⟩

set_option maxRecDepth 100000 in
set_option maxHeartbeats 2000000 in
theorem term_zero (ea : Addr) (aa : Option Addr) (al ac mb : Nat) (k n : Int) (s : ByteArray) (p : List Int) (pa : Option Addr) (pc : Nat) (f : TM) (a : Option Addr) (c : Nat) (w : World) (hG : w.cell? ⟨0, 0, none⟩ = some (EV ea)) :
    Calls Tryd.prog 62 #[.agg #[.slice aa al ac, .map (some mb)], .agg #[.int .i64 k, .int .i64 n, .string s, .slice pa p.length pc, .slice a (tlen f) c], .int .i64 (0 : Nat)] w (ErrP ea false w) := by
  have g0 : ((w.alloc (.cells #[.slice aa al ac, .map (some mb)] 106)).alloc (.cells #[.int .i64 k, .int .i64 n, .string s, .slice pa p.length pc, .slice a (tlen f) c] 87)).cell? ⟨0, 0, none⟩ = some (EV ea) := ((Ex.new _ _).alloc _).at hG
  go_enter Tryd.func62, Tryd.ntmps62
  go_wp2_with fail
  go_ret
  exact ⟨rfl, (Ex.new _ _).alloc _⟩

set_option maxRecDepth 100000 in
set_option maxHeartbeats 2000000 in
theorem terms_by (ea : Addr) (aa : Option Addr) (al ac mb : Nat) (ns : List ByteArray) (f : TM) (a : Option Addr) (c d : Nat) (w : World) (hM : MA w 0 f a) (hl : tlen f ≤ 1000000000)
    (hK : ∀ j, j < tlen f → ∀ (pa : Option Addr) (pc : Nat) (a' : Option Addr) (c' : Nat) (w' : World), Ex w w' → PA w' 0 (tpath f j) pa → MA w' 0 (tkid f j) a' → Calls Tryd.prog 62 #[.agg #[.slice aa al ac, .map (some mb)], .agg #[.int .i64 (tkind f j), .int .i64 (tnum f j), .string (tname f j), .slice pa (tpath f j).length pc, .slice a' (tlen (tkid f j)) c'], .int .i64 d] w' (ErrP ea (kidB ns d f j) w')) :
    Calls Tryd.prog 57 #[.agg #[.slice aa al ac, .map (some mb)], .slice a (tlen f) c, .int .i64 d] w (ErrP ea (kidsB ns d f) w) := by
  have M : Hid (∀ w', Ex w w' → MA w' 0 f a) := fun _ h => MA_below hM h
  have I : Hid _ := hK
  have N : Hid (Ex w (w.alloc (.cells #[.slice aa al ac, .map (some mb)] 106))) := Ex.new _ _
  have C : Hid (∀ w', Ex (w.alloc (.cells #[.slice aa al ac, .map (some mb)] 106)) w' → w'.cell? ⟨w.heap.size, 0, none⟩ = some (.slice aa al ac) ∧ w'.cell? ⟨w.heap.size, 1, none⟩ = some (.map (some mb))) := fun w' h => ⟨h.at (by simp), h.at (by simp)⟩
  clear hM hK
  obtain ⟨R, hR⟩ : ∃ R, R = kidsB ns d f := ⟨_, rfl⟩
  have RR : Hid (R = kidsB ns d f) := hR
  rw [← hR]
  clear hR
  go_enter Tryd.func57, Tryd.ntmps57
  go_wp2_with fail
  go_loopw [8, 9, 12] (fun _ _ i wr => ∃ (j : Nat), j ≤ tlen f ∧ i = .int .i64 j ∧ (∀ l, l < j → kidB ns d f l = true) ∧ Ex (w.alloc (.cells #[.slice aa al ac, .map (some mb)] 106)) wr) (fun _ _ i _ => tlen f - (intOf i).toNat)
  case atStart => exact ⟨0, by omega, rfl, fun j hj => by omega, Ex.refl _⟩
  case round =>
    obtain ⟨j, hj, rfl, hall, hx⟩ := hrel
    have A : Hid (∀ l, l < j → kidB ns d f l = true) := hall
    have E : Hid (Ex (w.alloc (.cells #[.slice aa al ac, .map (some mb)] 106)) wr) := hx
    obtain ⟨c0, c1⟩ := C.out wr hx
    clear hall hx
    by_cases hlt : j < tlen f
    · obtain ⟨b, o, rfl, _, hbs, hk⟩ := MA_at (M.out wr (N.out.trans E.out)) (by omega)
      obtain ⟨e0, e1, e2, ⟨pa, pc, e3, hp'⟩, a', c', e4, hm'⟩ := hk j hlt
      have HI : Hid (∀ w', Ex wr w' → Calls Tryd.prog 62 #[.agg #[.slice aa al ac, .map (some mb)], .agg #[.int .i64 (tkind f j), .int .i64 (tnum f j), .string (tname f j), .slice pa (tpath f j).length pc, .slice a' (tlen (tkid f j)) c'], .int .i64 d] w' (ErrP ea (kidB ns d f j) w')) := fun w' h => I.out j hlt pa pc a' c' w' (N.out.trans (E.out.trans h)) (PA_below (PS_pa.1 hp'.1) h) (MA_below hm' h)
      have U : Hid (kidB ns d f j = true → ∀ l, l < j + 1 → kidB ns d f l = true) := fun h => upto_succ A.out h
      have V : Hid (kidB ns d f j = false → R = false) := fun h => RR.out.trans (kidsB_no hlt h)
      clear hk hp' hm'
      have zr : w.heap.size < wr.heap.size := by have := E.out.size; rw [World.size_alloc] at this; omega
      go_wp2_with fail
      refine Calls.mono (HI.out _ (Ex.new _ _)) ?_
      rintro e w1 ⟨rfl, hb1⟩
      have E1 : Hid (Ex (w.alloc (.cells #[.slice aa al ac, .map (some mb)] 106)) w1) := E.out.trans ((Ex.new _ _).trans hb1)
      clear hb1 HI
      cases hkb : kidB ns d f j with
      | false =>
        have HR : Hid (R = false) := V.out hkb
        clear hkb
        simp only [errV, Bool.false_eq_true, if_false]
        go_wp2_with fail
        go_ret
        exact ⟨by rw [HR.out]; rfl, N.out.trans E1.out⟩
      | true =>
        have HU : Hid _ := U.out hkb
        clear hkb
        simp only [errV, if_true]
        go_wp2_with fail
        go_roundw
        case rel => exact ⟨j + 1, by omega, by go_num, HU.out, E1.out⟩
        case measure => simp [intOf]; omega
    · have HR : Hid (R = true) := RR.out.trans (kidsB_yes fun l hl => A.out l (by omega))
      go_wp2_with fail
      go_ret
      exact ⟨by rw [HR.out]; rfl, N.out.trans E.out⟩

theorem terms_any (ea : Addr) (aa : Option Addr) (al ac mb m : Nat) (ns : List ByteArray) : ∀ (d : Nat) (f : TM) (a : Option Addr) (c : Nat) (w : World), d ≤ 1000 → w.cell? ⟨0, 0, none⟩ = some (EV ea) → CM w mb m ns → MA w 0 f a → tlen f ≤ 1000000000 → TSm f → TLm f →
    Calls Tryd.prog 57 #[.agg #[.slice aa al ac, .map (some mb)], .slice a (tlen f) c, .int .i64 d] w (ErrP ea (kidsB ns d f) w) := by
  intro d
  induction d with
  | zero =>
    intro f a c w _ hG _ hM hl _ _
    exact terms_by ea aa al ac mb ns f a c 0 w hM hl fun j hj pa pc a' c' w' hx _ _ => term_zero ea aa al ac mb _ _ _ _ pa pc _ a' c' w' (hx.at hG)
  | succ d ih =>
    intro f a c w hd hG hC hM hl hsm hlm
    refine terms_by ea aa al ac mb ns f a c (d + 1) w hM hl fun j hj pa pc a' c' w' hx hp hm => ?_
    obtain ⟨g1, g2, g3⟩ := TSm_kid hsm j hj
    obtain ⟨h1, h2, h3, h4⟩ := TLm_at hlm j hj
    exact term_by ea aa al ac mb m ns _ _ _ _ pa pc _ a' c' d (by omega) w' (hx.at hG) (hC.ex hx) h1 hp fun w2 hx2 => ih _ a' c' w2 (by omega) ((hx.trans hx2).at hG) (hC.ex (hx.trans hx2)) (MA_below hm hx2) g2 g3 h4

end Go.Proofs.YtgpdnoghlommeaaDoor

namespace Go.Proofs.YtgpdnoghlommeaaDoor

open Go.RowKit Go.Deep

attribute [local go_sem ↓] Go.wp_at_zero Go.wp_at_succ

/-- All lists are of a length that is one. -/
def Lm : F → Prop
  | .nil => True
  | .node _ _ _ k r => len k ≤ 9223372036854775807 ∧ Lm k ∧ Lm r
theorem Lm_kid : ∀ {f : F}, Lm f → ∀ i, i < len f → len (kid f i) ≤ 9223372036854775807 ∧ Lm (kid f i)
  | .nil, _, i, h => by simp [len] at h
  | .node _ _ _ k r, hs, 0, _ => ⟨hs.1, hs.2.1⟩
  | .node _ _ _ k r, hs, i + 1, h => Lm_kid hs.2.2 i (by simp only [len] at h; omega)

/-- Small, as far as it goes. -/
def SmTo (f : F) (k : Nat) : Prop := ∀ j, j < k → len (kid f j) ≤ 1000000000 ∧ Sm (kid f j)
theorem Sm_of : ∀ {f : F}, SmTo f (len f) → Sm f
  | .nil, _ => trivial
  | .node _ _ _ k r, h => ⟨(h 0 (by simp [len])).1, (h 0 (by simp [len])).2, Sm_of fun j hj => h (j + 1) (by simp only [len]; omega)⟩

end Go.Proofs.YtgpdnoghlommeaaDoor

namespace Go.Proofs.YtgpdnoghlommeaaDoor

open Go.RowKit Go.Deep
end Go.Proofs.YtgpdnoghlommeaaDoor

namespace Go.Proofs.YtgpdnoghlommeaaDoor

open Go.RowKit Go.Deep

attribute [local go_sem ↓] Go.wp_at_zero Go.wp_at_succ

/-- A block holds numbers, and nothing else. -/
def IB (w : World) (b : Nat) (xs : List Int) : Prop := ∃ cur : Array Value, w.heap[b]? = some (.cells cur 3 (0, 0)) ∧ cur.size = xs.length ∧ ∀ i, i < xs.length → cur[i]? = some (.int .i64 (xs.getD i 0))
theorem IB.pa {w : World} {b lo : Nat} {xs : List Int} (h : IB w b xs) (hl : lo ≤ b) : PA w lo xs (some ⟨b, 0, none⟩) := by
  obtain ⟨cur, h1, h2, h3⟩ := h
  refine Or.inr ⟨b, 0, rfl, hl, fun i hi => ?_⟩
  simp [World.cell?, h1, h3 i hi]
theorem IB.ex {w w' : World} {b : Nat} {xs : List Int} (h : IB w b xs) (hx : Ex w w') : IB w' b xs := by
  obtain ⟨cur, h1, h2⟩ := h
  exact ⟨cur, hx.blk h1, h2⟩
theorem IB.lt {w : World} {b : Nat} {xs : List Int} (h : IB w b xs) : b < w.heap.size := by
  obtain ⟨cur, h1, _⟩ := h
  exact lt_of_block h1

set_option maxRecDepth 100000 in
set_option maxHeartbeats 2000000 in
theorem toIntS_any (xs : List Int) (a : Option Addr) (c lo : Nat) (w : World) (hl : xs.length ≤ 1000000000) (hP : PA w lo xs a) :
    Calls Tryd.prog 53 #[.slice a xs.length c] w fun e w' => e = .returned (.slice (some ⟨w.heap.size, 0, none⟩) xs.length xs.length) ∧ IB w' w.heap.size xs ∧ Ex w w' := by
  have P : Hid (PA w lo xs a) := hP
  clear hP
  obtain ⟨i0, hi, hz0, hz1, hz2⟩ := info_parts Tryd.info3
  have hmk : ∀ w : World, (Instr.makeSlice 82 (.int .i64 (xs.length : Int)) (.int .i64 (xs.length : Int))).run Tryd.prog w = .ok (.slice (some ⟨w.heap.size, 0, none⟩) xs.length xs.length) (w.alloc (.cells (madeCells #[.int .i64 0] xs.length) 3)) := fun w => by
    have := run_make (P := Tryd.prog) w 82 3 i0 _ Tryd.underlying82 hi hz0 .i64 .i64 (xs.length : Int) (xs.length : Int) (by omega) (by omega) (by rw [hz2]; omega) (by omega)
    rw [hz1] at this
    simpa [Value.cells] using this
  clear hz0 hz1 hz2 hi
  go_enter Tryd.func53, Tryd.ntmps53
  go_wp2_with fail
  go_loopw [4] (fun i wr => ∃ (k : Nat) (cur : Array Value), k ≤ xs.length ∧ i = .int .i64 k ∧ Ex w wr ∧ wr.heap[w.heap.size]? = some (.cells cur 3 (0, 0)) ∧ cur.size = xs.length ∧ (∀ j, j < k → cur[j]? = some (.int .i64 (xs.getD j 0)))) (fun i _ => xs.length - (intOf i).toNat)
  case atStart => exact ⟨0, madeCells #[.int .i64 0] xs.length, Nat.zero_le _, rfl, Ex.new _ _, heap_alloc_new _ _, size_madeCells _ _, fun j hj => by omega⟩
  case round =>
    obtain ⟨k, cur, hk, rfl, hx, hob, hcs, hkids⟩ := hrel
    have KI : Hid _ := hkids
    have HCS : Hid (cur.size = xs.length) := hcs
    clear hkids hcs
    by_cases hlt : k < xs.length
    · obtain ⟨b, o, rfl, hlo, hbs, hkk⟩ := PA_at (PA_below P.out hx) (by omega)
      have hc1 := hkk k hlt
      clear hkk
      have cc : wr.cell? ⟨w.heap.size, k, none⟩ = some (cur[k]'(by have := HCS.out; omega)) := by simp [World.cell?, hob]
      have cf : wr.frozen? ⟨w.heap.size, k, none⟩ = false := by simp [World.frozen?, hob]
      go_wp2_with fail
      go_roundw
      case rel =>
        refine ⟨k + 1, cur.setIfInBounds k (.int .i64 (xs.getD k 0)), by omega, by go_num, hx.set (Nat.le_refl _) _, ?_, by simp [HCS.out], fun j hj => ?_⟩
        · simp [World.setCell, Array.getElem?_modify, hob, hlt]
        · by_cases hj' : j < k
          · rw [Array.getElem?_setIfInBounds_ne (by omega)]; exact KI.out j hj'
          · have e : j = k := by omega
            subst e
            rw [Array.getElem?_setIfInBounds_self]; simp [HCS.out, hlt]
      case measure => simp [intOf]; omega
    · go_wp2_with fail
      go_ret
      exact ⟨rfl, ⟨cur, hob, HCS.out, fun i hi => KI.out i (by omega)⟩, hx⟩

set_option maxRecDepth 100000 in
set_option maxHeartbeats 2000000 in
theorem eqIntS_same (xs : List Int) (a a' : Option Addr) (c c' : Nat) (w : World) (hl : xs.length ≤ 1000000000) (hP : PA w 0 xs a) (hP' : PA w 0 xs a') :
    Calls Tryd.prog 58 #[.slice a xs.length c, .slice a' xs.length c'] w fun e w' => e = .returned (.bool true) ∧ Ex w w' := by
  have P : Hid (PA w 0 xs a) := hP
  have P' : Hid (PA w 0 xs a') := hP'
  clear hP hP'
  go_enter Tryd.func58, Tryd.ntmps58
  go_wp2_with fail
  go_loopw [5] (fun i wr => ∃ (k : Nat), k ≤ xs.length ∧ i = .int .i64 k ∧ Ex w wr) (fun i _ => xs.length - (intOf i).toNat)
  case atStart => exact ⟨0, Nat.zero_le _, rfl, Ex.refl _⟩
  case round =>
    obtain ⟨k, hk, rfl, hx⟩ := hrel
    by_cases hlt : k < xs.length
    · obtain ⟨b, o, rfl, hlo, hbs, hkk⟩ := PA_at (PA_below P.out hx) (by omega)
      obtain ⟨b', o', rfl, hlo', hbs', hkk'⟩ := PA_at (PA_below P'.out hx) (by omega)
      have hc1 := hkk k hlt
      have hc2 := hkk' k hlt
      clear hkk hkk'
      have i1 : (0 : Int) ≤ (k : Int) := by omega
      have i2 : (k : Int) < (xs.length : Int) := by omega
      go_wp2_with fail
      go_quiet (fail)
      go_wp2_with fail
      go_roundw
      case rel => exact ⟨k + 1, by omega, by go_num, (hx.drewN _)⟩
      case measure => simp [intOf]; omega
    · go_wp2_with fail
      go_ret
      exact ⟨rfl, hx⟩

end Go.Proofs.YtgpdnoghlommeaaDoor

namespace Go.Proofs.YtgpdnoghlommeaaDoor

open Go.RowKit Go.Deep

attribute [local go_sem ↓] Go.wp_at_zero Go.wp_at_succ

/-- Values set in a row of cells. -/
def setL (w : World) (b : Nat) : Nat → List Value → World
  | _, [] => w
  | o, v :: r => setL (w.setCell ⟨b, o, none⟩ v) b (o + 1) r
def setA (cur : Array Value) : Nat → List Value → Array Value
  | _, [] => cur
  | o, v :: r => setA (cur.setIfInBounds o v) (o + 1) r
theorem setA_size : ∀ (vs : List Value) (cur : Array Value) (o : Nat), (setA cur o vs).size = cur.size
  | [], _, _ => rfl
  | v :: r, cur, o => by rw [setA, setA_size r]; simp
theorem setA_out : ∀ (vs : List Value) (cur : Array Value) (o i : Nat), i < o ∨ o + vs.length ≤ i → (setA cur o vs)[i]? = cur[i]?
  | [], _, _, _, _ => rfl
  | v :: r, cur, o, i, h => by
    simp only [List.length_cons] at h
    rw [setA, setA_out r _ _ _ (by omega), Array.getElem?_setIfInBounds_ne (by omega)]
theorem setA_in : ∀ (vs : List Value) (cur : Array Value) (o i : Nat) (v : Value), vs[i]? = some v → o + i < cur.size → (setA cur o vs)[o + i]? = some v
  | [], _, _, _, _, h, _ => by simp at h
  | u :: r, cur, o, 0, v, h, hs => by
    simp only [List.getElem?_cons_zero, Option.some.injEq] at h
    subst h
    rw [setA, setA_out r _ _ _ (by omega), Nat.add_zero, Array.getElem?_setIfInBounds_self, if_pos (by omega)]
  | u :: r, cur, o, i + 1, v, h, hs => by
    rw [setA, show o + (i + 1) = o + 1 + i by omega]
    exact setA_in r _ _ _ _ (by simpa using h) (by simp; omega)
theorem setA_all (vs : List Value) (cur : Array Value) (h : cur.size = vs.length) : setA cur 0 vs = vs.toArray := by
  refine Array.ext' (List.ext_getElem? fun i => ?_)
  rw [Array.getElem?_toList]
  rcases Nat.lt_or_ge i vs.length with hi | hi
  · have := setA_in vs cur 0 i vs[i] (by simp [hi]) (by omega)
    rw [Nat.zero_add] at this
    rw [this]; simp [hi]
  · rw [setA_out vs cur 0 i (Or.inr (by omega))]
    simp [hi, h]
theorem setL_size : ∀ (vs : List Value) (w : World) (b o : Nat), (setL w b o vs).heap.size = w.heap.size
  | [], _, _, _ => rfl
  | v :: r, w, b, o => by rw [setL, setL_size r, World.size_setCell]
theorem setL_blk : ∀ (vs : List Value) {w : World} {b o : Nat} {cur : Array Value} {t : TypeId}, w.heap[b]? = some (.cells cur t (0, 0)) → (setL w b o vs).heap[b]? = some (.cells (setA cur o vs) t (0, 0))
  | [], _, _, _, _, _, h => h
  | v :: r, w, b, o, cur, t, h => by
    rw [setL, setA]
    exact setL_blk r (by simp [World.setCell, Array.getElem?_modify, h])
theorem setL_other : ∀ (vs : List Value) {w : World} {b o n : Nat}, n ≠ b → (setL w b o vs).heap[n]? = w.heap[n]?
  | [], _, _, _, _, _ => rfl
  | v :: r, w, b, o, n, h => by rw [setL, setL_other r h, Below.heap_setCell _ _ _ _ (by simpa using h)]
theorem setL_ex : ∀ (vs : List Value) {a w : World} {b o : Nat}, Ex a w → a.heap.size ≤ b → Ex a (setL w b o vs)
  | [], _, _, _, _, h, _ => h
  | v :: r, a, w, b, o, h, hb => by rw [setL]; exact setL_ex r (h.set hb v) hb
theorem setL_kp : ∀ (vs : List Value) {lo : Nat} {a w : World} {b o : Nat}, Kp lo a w → (b < lo ∨ a.heap.size ≤ b) → Kp lo a (setL w b o vs)
  | [], _, _, _, _, _, h, _ => h
  | v :: r, lo, a, w, b, o, h, hb => by rw [setL]; exact setL_kp r (h.set hb v) hb
theorem blk_set {w : World} {n i : Nat} {vs : Array Value} {t : TypeId} (h : w.heap[n]? = some (.cells vs t (0, 0))) (v : Value) : (w.setCell ⟨n, i, none⟩ v).heap[n]? = some (.cells (vs.setIfInBounds i v) t (0, 0)) := by
  simp [World.setCell, Array.getElem?_modify, h]
theorem blk_off {w : World} {n m i : Nat} {o : Obj} (h : w.heap[n]? = some o) (hn : n ≠ m) (v : Value) : (w.setCell ⟨m, i, none⟩ v).heap[n]? = some o := by
  rw [Below.heap_setCell _ _ _ _ (by simpa using hn)]; exact h
theorem blk_cell {w : World} {n : Nat} {vs : Array Value} {t : TypeId} (h : w.heap[n]? = some (.cells vs t (0, 0))) (i : Nat) : w.cell? ⟨n, i, none⟩ = vs[i]? := by
  simp [World.cell?, h]
theorem blk_free {w : World} {n : Nat} {vs : Array Value} {t : TypeId} (h : w.heap[n]? = some (.cells vs t (0, 0))) (i : Nat) : w.frozen? ⟨n, i, none⟩ = false := by
  simp [World.frozen?, h]

end Go.Proofs.YtgpdnoghlommeaaDoor

namespace Go.Proofs.YtgpdnoghlommeaaDoor

open Go.RowKit Go.Deep Go.Maps Go.WideMaps

attribute [local go_sem ↓] Go.wp_at_zero Go.wp_at_succ

/-- What a name's function is given and says, if there is one; its cells. -/
def NamedP (l : List PM) (s : ByteArray) (w : World) (e : Ending) (w' : World) : Prop := ∃ (gn : ByteArray) (a1 : Option Addr) (np k1 : Nat) (a2 : Option Addr) (nb k2 : Nat) (a3 : Option Addr) (nz k3 : Nat) (ok : Bool),
  e = .returned (.tuple #[.agg #[.string gn, .slice a1 np k1, .slice a2 nb k2, .slice a3 nz k3], .bool ok]) ∧ arityR l s = (np, nz, ok) ∧ Ex w w'

set_option maxRecDepth 100000 in
set_option maxHeartbeats 2000000 in
theorem named_any (l : List PM) (a : Option Addr) (c : Nat) (s : ByteArray) (w : World) (hl : l.length ≤ 1000000000) (hQ : QA w 0 l a) :
    Calls Tryd.prog 44 #[.slice a l.length c, .string s] w (NamedP l s w) := by
  have Q : Hid (∀ w', Ex w w' → QA w' 0 l a) := fun _ h => QA_below hQ h
  have N : Hid (Ex w (w.alloc (.cells #[.string ⟨#[]⟩, .slice none 0 0, .slice none 0 0, .slice none 0 0] 44))) := Ex.new _ _
  have BZ : Hid (∀ w', Ex (w.alloc (.cells #[.string ⟨#[]⟩, .slice none 0 0, .slice none 0 0, .slice none 0 0] 44)) w' → w'.heap[w.heap.size]? = some (.cells #[.string ⟨#[]⟩, .slice none 0 0, .slice none 0 0, .slice none 0 0] 44 (0, 0))) := fun w' h => h.blk (heap_alloc_new _ _)
  clear hQ
  go_enter Tryd.func44, Tryd.ntmps44
  go_wp2_with fail
  go_loopw [7, 10] (fun _ i wr => ∃ (j : Nat), j ≤ l.length ∧ i = .int .i64 j ∧ (∀ k, k < j → ((l.getD k pm0).name.toList == s.toList) = false) ∧ Ex (w.alloc (.cells #[.string ⟨#[]⟩, .slice none 0 0, .slice none 0 0, .slice none 0 0] 44)) wr) (fun _ i _ => l.length - (intOf i).toNat)
  case atStart => exact ⟨0, by omega, rfl, fun j hj => by omega, Ex.refl _⟩
  case round =>
    obtain ⟨j, hj, rfl, hall, hx⟩ := hrel
    have A : Hid (∀ k, k < j → ((l.getD k pm0).name.toList == s.toList) = false) := hall
    have E : Hid (Ex (w.alloc (.cells #[.string ⟨#[]⟩, .slice none 0 0, .slice none 0 0, .slice none 0 0] 44)) wr) := hx
    have zr : w.heap.size < wr.heap.size := by have := hx.size; rw [World.size_alloc] at this; omega
    clear hall hx
    by_cases hlt : j < l.length
    · obtain ⟨b, o, rfl, _, hbs, hk⟩ := QA_at (Q.out wr (N.out.trans E.out)) (by omega)
      obtain ⟨e0, ⟨a1, k1, e1, hh1⟩, ⟨a2, k2, e2, hh2⟩, ⟨a3, k3, e3, hh3⟩⟩ := hk j (by omega)
      clear hh1 hh2 hh3
      have U : Hid (((l.getD j pm0).name.toList == s.toList) = false → ∀ k, k < j + 1 → ((l.getD k pm0).name.toList == s.toList) = false) := fun h => upto_succ A.out h
      have V : Hid (((l.getD j pm0).name.toList == s.toList) = true → arityR l s = ((l.getD j pm0).params.length, tlen (l.getD j pm0).says, true)) := fun h => by have := arity_yes (m := l.length) hlt hlt A.out h; rw [List.take_length] at this; exact this
      obtain ⟨g, hg⟩ : ∃ g, l.getD j pm0 = g := ⟨_, rfl⟩
      rw [hg] at e0 e1 e2 e3 U V
      clear hk hg
      obtain ⟨gn, gp, gb, gs⟩ := g
      dsimp only at e0 e1 e2 e3 U V
      cases he : gn.toList == s.toList with
      | true =>
        have HR : Hid _ := V.out he
        have hR := BZ.out _ E.out
        have qQ : (setL wr w.heap.size 0 [.string gn, .slice a1 gp.length k1, .slice a2 (blen gb) k2, .slice a3 (tlen gs) k3]).heap[w.heap.size]? = some (.cells #[.string gn, .slice a1 gp.length k1, .slice a2 (blen gb) k2, .slice a3 (tlen gs) k3] 44 (0, 0)) := (setL_blk (o := 0) [.string gn, .slice a1 gp.length k1, .slice a2 (blen gb) k2, .slice a3 (tlen gs) k3] hR).trans (by rw [setA_all [.string gn, .slice a1 gp.length k1, .slice a2 (blen gb) k2, .slice a3 (tlen gs) k3] #[.string ⟨#[]⟩, .slice none 0 0, .slice none 0 0, .slice none 0 0] rfl])
        have RR0 : Hid (((setL wr w.heap.size 0 [.string gn, .slice a1 gp.length k1, .slice a2 (blen gb) k2, .slice a3 (tlen gs) k3]).alloc (.cells #[.string gn, .slice a1 gp.length k1, .slice a2 (blen gb) k2, .slice a3 (tlen gs) k3] 44)).cell? ⟨w.heap.size, 0, none⟩ = some (.string gn)) := Ex.at (Ex.new _ _) (blk_cell qQ 0)
        have RR1 : Hid (((setL wr w.heap.size 0 [.string gn, .slice a1 gp.length k1, .slice a2 (blen gb) k2, .slice a3 (tlen gs) k3]).alloc (.cells #[.string gn, .slice a1 gp.length k1, .slice a2 (blen gb) k2, .slice a3 (tlen gs) k3] 44)).cell? ⟨w.heap.size, 1, none⟩ = some (.slice a1 gp.length k1)) := Ex.at (Ex.new _ _) (blk_cell qQ 1)
        have RR2 : Hid (((setL wr w.heap.size 0 [.string gn, .slice a1 gp.length k1, .slice a2 (blen gb) k2, .slice a3 (tlen gs) k3]).alloc (.cells #[.string gn, .slice a1 gp.length k1, .slice a2 (blen gb) k2, .slice a3 (tlen gs) k3] 44)).cell? ⟨w.heap.size, 2, none⟩ = some (.slice a2 (blen gb) k2)) := Ex.at (Ex.new _ _) (blk_cell qQ 2)
        have RR3 : Hid (((setL wr w.heap.size 0 [.string gn, .slice a1 gp.length k1, .slice a2 (blen gb) k2, .slice a3 (tlen gs) k3]).alloc (.cells #[.string gn, .slice a1 gp.length k1, .slice a2 (blen gb) k2, .slice a3 (tlen gs) k3] 44)).cell? ⟨w.heap.size, 3, none⟩ = some (.slice a3 (tlen gs) k3)) := Ex.at (Ex.new _ _) (blk_cell qQ 3)
        have QX : Hid (Ex w ((setL wr w.heap.size 0 [.string gn, .slice a1 gp.length k1, .slice a2 (blen gb) k2, .slice a3 (tlen gs) k3]).alloc (.cells #[.string gn, .slice a1 gp.length k1, .slice a2 (blen gb) k2, .slice a3 (tlen gs) k3] 44))) := (setL_ex (o := 0) (b := w.heap.size) [.string gn, .slice a1 gp.length k1, .slice a2 (blen gb) k2, .slice a3 (tlen gs) k3] (N.out.trans E.out) (Nat.le_refl _)).alloc _
        have cr0 : wr.cell? ⟨w.heap.size, 0, none⟩ = some (.string ⟨#[]⟩) := blk_cell (BZ.out _ E.out) 0
        have cr1 : wr.cell? ⟨w.heap.size, 1, none⟩ = some (.slice none 0 0) := blk_cell (BZ.out _ E.out) 1
        have cr2 : wr.cell? ⟨w.heap.size, 2, none⟩ = some (.slice none 0 0) := blk_cell (BZ.out _ E.out) 2
        have cr3 : wr.cell? ⟨w.heap.size, 3, none⟩ = some (.slice none 0 0) := blk_cell (BZ.out _ E.out) 3
        have fr0 := blk_free hR 0
        have fr1 := blk_free hR 1
        have fr2 := blk_free hR 2
        have fr3 := blk_free hR 3
        clear hR qQ
        go_wp2_with fail
        have r0 := RR0.out
        have r1 := RR1.out
        have r2 := RR2.out
        have r3 := RR3.out
        simp only [setL, Nat.zero_add, Nat.reduceAdd] at r0 r1 r2 r3
        refine bodyPost_ret (v := .tuple #[.agg #[.string gn, .slice a1 gp.length k1, .slice a2 (blen gb) k2, .slice a3 (tlen gs) k3], .bool true]) (by simp [results, Tryd.results44, go_sem, r0, r1, r2, r3]) rfl ?_
        exact ⟨_, _, _, _, _, _, _, _, _, _, _, rfl, HR.out, QX.out⟩
      | false =>
        have HU : Hid _ := U.out he
        go_wp2_with fail
        go_roundw
        case rel => exact ⟨j + 1, by omega, by go_num, HU.out, E.out.alloc _⟩
        case measure => simp [intOf]; omega
    · have HR : Hid (arityR l s = (0, 0, false)) := by
        show _ = _
        have := arity_no (Nat.le_refl l.length) (s := s) fun k hk => A.out k (by omega)
        rw [List.take_length] at this; exact this
      have hR := BZ.out _ E.out
      have qQ := (setL_blk (o := 0) [.string ⟨#[]⟩, .slice none 0 0, .slice none 0 0, .slice none 0 0] hR).trans (by rw [setA_all [.string ⟨#[]⟩, .slice none 0 0, .slice none 0 0, .slice none 0 0] #[.string ⟨#[]⟩, .slice none 0 0, .slice none 0 0, .slice none 0 0] rfl])
      have RR0 : Hid _ := blk_cell qQ 0
      have RR1 : Hid _ := blk_cell qQ 1
      have RR2 : Hid _ := blk_cell qQ 2
      have RR3 : Hid _ := blk_cell qQ 3
      have QX : Hid _ := setL_ex (o := 0) (b := w.heap.size) [.string ⟨#[]⟩, .slice none 0 0, .slice none 0 0, .slice none 0 0] (N.out.trans E.out) (Nat.le_refl _)
      have cr0 : wr.cell? ⟨w.heap.size, 0, none⟩ = some (.string ⟨#[]⟩) := blk_cell hR 0
      have cr1 : wr.cell? ⟨w.heap.size, 1, none⟩ = some (.slice none 0 0) := blk_cell hR 1
      have cr2 : wr.cell? ⟨w.heap.size, 2, none⟩ = some (.slice none 0 0) := blk_cell hR 2
      have cr3 : wr.cell? ⟨w.heap.size, 3, none⟩ = some (.slice none 0 0) := blk_cell hR 3
      have fr0 := blk_free hR 0
      have fr1 := blk_free hR 1
      have fr2 := blk_free hR 2
      have fr3 := blk_free hR 3
      clear hR qQ
      go_wp2_with fail
      have r0 := RR0.out
      have r1 := RR1.out
      have r2 := RR2.out
      have r3 := RR3.out
      simp only [setL, Nat.zero_add, Nat.reduceAdd] at r0 r1 r2 r3
      refine bodyPost_ret (v := .tuple #[.agg #[.string ⟨#[]⟩, .slice none 0 0, .slice none 0 0, .slice none 0 0], .bool false]) (by simp [results, Tryd.results44, go_sem, r0, r1, r2, r3]) rfl ?_
      exact ⟨_, _, _, _, _, _, _, _, _, _, _, rfl, HR.out, QX.out⟩

/-- Both bodies are nothing. -/
def nobB (tb : BD) (tz : TM) (eb : BD) (ez : TM) : Bool := (decide (blen tb = 0) && decide (tlen tz = 0)) && (decide (blen eb = 0) && decide (tlen ez = 0))
/-- A binding has just what its kind says, as the program asks it. -/
def bokB (fs : List PM) (k : Int) (nm : List ByteArray) (fn : ByteArray) (ts : TM) (tb : BD) (tz : TM) (eb : BD) (ez : TM) : Bool :=
  if k = 1 then nobB tb tz eb ez && (decide (fn.size = 0) && (decide (tlen ts = 1) && decide (nm.length = 1)))
  else if k = 2 then nobB tb tz eb ez && ((arityR fs fn).2.2 && (decide (tlen ts = (arityR fs fn).1) && decide (nm.length = (arityR fs fn).2.1)))
  else if k = 3 then decide (fn.size = 0) && (decide (tlen ts = 1) && (decide (nm.length = tlen tz) && decide (nm.length = tlen ez)))
  else false
theorem bokB_1 {fs : List PM} {nm : List ByteArray} {fn : ByteArray} {ts : TM} {tb : BD} {tz : TM} {eb : BD} {ez : TM} : bokB fs 1 nm fn ts tb tz eb ez = (nobB tb tz eb ez && (decide (fn.size = 0) && (decide (tlen ts = 1) && decide (nm.length = 1)))) := rfl
theorem bokB_2 {fs : List PM} {nm : List ByteArray} {fn : ByteArray} {ts : TM} {tb : BD} {tz : TM} {eb : BD} {ez : TM} {np nz : Nat} {ok : Bool} (h : arityR fs fn = (np, nz, ok)) : bokB fs 2 nm fn ts tb tz eb ez = (nobB tb tz eb ez && (ok && (decide (tlen ts = np) && decide (nm.length = nz)))) := by
  show (nobB tb tz eb ez && ((arityR fs fn).2.2 && (decide (tlen ts = (arityR fs fn).1) && decide (nm.length = (arityR fs fn).2.1)))) = _
  rw [h]
theorem bokB_3 {fs : List PM} {nm : List ByteArray} {fn : ByteArray} {ts : TM} {tb : BD} {tz : TM} {eb : BD} {ez : TM} : bokB fs 3 nm fn ts tb tz eb ez = (decide (fn.size = 0) && (decide (tlen ts = 1) && (decide (nm.length = tlen tz) && decide (nm.length = tlen ez)))) := rfl
theorem bokB_o {fs : List PM} {k : Int} {nm : List ByteArray} {fn : ByteArray} {ts : TM} {tb : BD} {tz : TM} {eb : BD} {ez : TM} (h1 : ¬ k = 1) (h2 : ¬ k = 2) (h3 : ¬ k = 3) : bokB fs k nm fn ts tb tz eb ez = false := by
  unfold bokB; rw [if_neg h1, if_neg h2, if_neg h3]
theorem sum_nob (tb : BD) (tz : TM) (eb : BD) (ez : TM) : decide (blen tb + tlen tz + blen eb + tlen ez = 0) = nobB tb tz eb ez := by
  simp only [nobB]
  by_cases h1 : blen tb = 0 <;> by_cases h2 : tlen tz = 0 <;> by_cases h3 : blen eb = 0 <;> by_cases h4 : tlen ez = 0 <;> simp [h1, h2, h3, h4]
theorem decide_comm (a b : Nat) : decide (a = b) = decide (b = a) := by
  by_cases h : a = b
  · rw [decide_eq_true h, decide_eq_true h.symm]
  · rw [decide_eq_false h, decide_eq_false (fun e => h e.symm)]
/-- The two ways to ask are one, where no function ahead is given more than 60. -/
theorem bind_bok {fs : List PM} {rec : List ByteArray → BD → TM → Bool} {ns : List ByteArray} {k : Int} {nm : List ByteArray} {fn : ByteArray} {ts : TM} {tb : BD} {tz : TM} {eb : BD} {ez : TM} (h60 : (arityR fs fn).1 ≤ 60) :
    bindB fs rec ns k nm fn ts tb tz eb ez = (namesB nm && (bokB fs k nm fn ts tb tz eb ez && (kidsB ns 8 ts && (if k = 3 then rec ns tb tz && rec ns eb ez else true)))) := by
  have ht : termsB ns ts = (decide (tlen ts ≤ 60) && kidsB ns 8 ts) := rfl
  have e : bindB fs rec ns k nm fn ts tb tz eb ez = (namesB nm && (kindB fs rec ns k nm fn ts tb tz eb ez && (decide (tlen ts ≤ 60) && kidsB ns 8 ts))) := by
    simp only [bindB, namesB, ht]
    cases decide (nm.length ≤ 60) <;> cases uniqB nm <;> cases decide (tlen ts ≤ 60) <;> cases kidsB ns 8 ts <;> simp
  rw [e]
  congr 1
  by_cases k1 : k = 1
  · subst k1
    rw [kindB_1, bokB_1, sum_nob, if_neg (by decide)]
    by_cases h : tlen ts = 1
    · rw [decide_eq_true h, decide_eq_true (show tlen ts ≤ 60 by omega)]
      cases nobB tb tz eb ez <;> cases decide (fn.size = 0) <;> cases decide (nm.length = 1) <;> cases kidsB ns 8 ts <;> rfl
    · rw [decide_eq_false h]; simp
  by_cases k2 : k = 2
  · subst k2
    rw [kindB_2, if_neg (by decide)]
    obtain ⟨⟨np, nz, ok⟩, hg⟩ : ∃ r, arityR fs fn = r := ⟨_, rfl⟩
    rw [bokB_2 hg]
    rw [hg] at h60 ⊢
    dsimp only at h60 ⊢
    rw [sum_nob, decide_comm np, decide_comm nz]
    by_cases h : tlen ts = np
    · rw [decide_eq_true h, decide_eq_true (show tlen ts ≤ 60 by omega)]
      cases nobB tb tz eb ez <;> cases ok <;> cases decide (nm.length = nz) <;> cases kidsB ns 8 ts <;> rfl
    · rw [decide_eq_false h]; simp
  by_cases k3 : k = 3
  · subst k3
    rw [kindB_3, bokB_3, if_pos rfl, decide_comm (tlen tz), decide_comm (tlen ez)]
    by_cases h : tlen ts = 1
    · rw [decide_eq_true h, decide_eq_true (show tlen ts ≤ 60 by omega)]
      cases decide (fn.size = 0) <;> cases rec ns tb tz <;> cases rec ns eb ez <;> cases decide (nm.length = tlen tz) <;> cases decide (nm.length = tlen ez) <;> cases kidsB ns 8 ts <;> rfl
    · rw [decide_eq_false h]; simp
  rw [kindB_o k1 k2 k3, bokB_o k1 k2 k3]; simp

set_option maxRecDepth 100000 in
set_option maxHeartbeats 4000000 in
theorem bindOk_any (fs : List PM) (la : Option Addr) (lc : Nat) (hl : fs.length ≤ 1000000000) (k : Int) (nm : List ByteArray) (nma : Option Addr) (nmc : Nat) (fn : ByteArray) (ts : TM) (tsa : Option Addr) (tsc : Nat) (tb : BD) (tba : Option Addr) (tbc : Nat) (tz : TM) (tza : Option Addr) (tzc : Nat) (eb : BD) (eba : Option Addr) (ebc : Nat) (ez : TM) (eza : Option Addr) (ezc : Nat) (w : World) (hQ : QA w 0 fs la) :
    Calls Tryd.prog 60 #[.slice la fs.length lc, .agg #[.int .i64 k, .slice nma nm.length nmc, .string fn, .slice tsa (tlen ts) tsc, .slice tba (blen tb) tbc, .slice tza (tlen tz) tzc, .slice eba (blen eb) ebc, .slice eza (tlen ez) ezc]] w fun e w' => e = .returned (.bool (bokB fs k nm fn ts tb tz eb ez)) ∧ Ex w w' := by
  have Q : Hid (∀ w', Ex w w' → QA w' 0 fs la) := fun _ h => QA_below hQ h
  have N : Hid (Ex w (w.alloc (.cells #[.int .i64 k, .slice nma nm.length nmc, .string fn, .slice tsa (tlen ts) tsc, .slice tba (blen tb) tbc, .slice tza (tlen tz) tzc, .slice eba (blen eb) ebc, .slice eza (tlen ez) ezc] 55))) := Ex.new _ _
  have C : Hid (∀ w', Ex (w.alloc (.cells #[.int .i64 k, .slice nma nm.length nmc, .string fn, .slice tsa (tlen ts) tsc, .slice tba (blen tb) tbc, .slice tza (tlen tz) tzc, .slice eba (blen eb) ebc, .slice eza (tlen ez) ezc] 55)) w' → w'.cell? ⟨w.heap.size, 0, none⟩ = some (.int .i64 k) ∧ w'.cell? ⟨w.heap.size, 1, none⟩ = some (.slice nma nm.length nmc) ∧ w'.cell? ⟨w.heap.size, 2, none⟩ = some (.string fn) ∧ w'.cell? ⟨w.heap.size, 3, none⟩ = some (.slice tsa (tlen ts) tsc) ∧ w'.cell? ⟨w.heap.size, 4, none⟩ = some (.slice tba (blen tb) tbc) ∧ w'.cell? ⟨w.heap.size, 5, none⟩ = some (.slice tza (tlen tz) tzc) ∧ w'.cell? ⟨w.heap.size, 6, none⟩ = some (.slice eba (blen eb) ebc) ∧ w'.cell? ⟨w.heap.size, 7, none⟩ = some (.slice eza (tlen ez) ezc)) := fun w' h => ⟨h.at (by simp), h.at (by simp), h.at (by simp), h.at (by simp), h.at (by simp), h.at (by simp), h.at (by simp), h.at (by simp)⟩
  obtain ⟨R, hR⟩ : ∃ R, R = bokB fs k nm fn ts tb tz eb ez := ⟨_, rfl⟩
  have RR : Hid (R = bokB fs k nm fn ts tb tz eb ez) := hR
  rw [← hR]
  obtain ⟨b1, hb1⟩ : ∃ b, (decide (blen tb = 0) && decide (tlen tz = 0)) = b := ⟨_, rfl⟩
  obtain ⟨b2, hb2⟩ : ∃ b, (decide (blen eb = 0) && decide (tlen ez = 0)) = b := ⟨_, rfl⟩
  have DN : Hid (nobB tb tz eb ez = (b1 && b2)) := by show _ = _; rw [nobB, hb1, hb2]
  have B1 : Hid (∀ w', Calls Tryd.prog 63 #[.agg #[.slice tba (blen tb) tbc, .slice tza (tlen tz) tzc]] w' fun e w'' => e = .returned (.bool b1) ∧ Ex w' w'') := fun w' => by have := bodyNothing_any tb tba tbc tz tza tzc w'; rw [hb1] at this; exact this
  have B2 : Hid (∀ w', Calls Tryd.prog 63 #[.agg #[.slice eba (blen eb) ebc, .slice eza (tlen ez) ezc]] w' fun e w'' => e = .returned (.bool b2) ∧ Ex w' w'') := fun w' => by have := bodyNothing_any eb eba ebc ez eza ezc w'; rw [hb2] at this; exact this
  clear hR hb1 hb2 hQ
  go_enter Tryd.func60, Tryd.ntmps60
  go_wp2_with fail
  refine (B1.out _).mono ?_
  rintro e w1 ⟨rfl, hx1⟩
  have X1 : Hid (Ex (w.alloc (.cells #[.int .i64 k, .slice nma nm.length nmc, .string fn, .slice tsa (tlen ts) tsc, .slice tba (blen tb) tbc, .slice tza (tlen tz) tzc, .slice eba (blen eb) ebc, .slice eza (tlen ez) ezc] 55)) w1) := hx1
  obtain ⟨c0, c1, c2, c3, c4, c5, c6, c7⟩ := C.out w1 hx1
  clear hx1 B1
  cases b1 with
  | false =>
    by_cases k1 : k = 1
    · subst k1
      have HV : Hid (R = false) := RR.out.trans (by rw [bokB_1, DN.out]; rfl)
      go_wp2_with fail
      go_ret
      exact ⟨ret_b HV.out.symm, N.out.trans X1.out⟩
    by_cases k2 : k = 2
    · subst k2
      go_wp2_with fail
      refine (named_any fs la lc fn _ hl (Q.out _ (N.out.trans X1.out))).mono ?_
      rintro e w4 ⟨gn, a1, np, kk1, a2, nb, kk2, a3, nz, kk3, ok, rfl, hg, hx4⟩
      have G : Hid _ := hg
      have X4 : Hid (Ex _ w4) := X1.out.trans hx4
      have z4 : w.heap.size < w4.heap.size := by have := X4.out.size; rw [World.size_alloc] at this; omega
      clear hg hx4 c0 c1 c2 c3 c4 c5 c6 c7
      obtain ⟨c0, c1, c2, c3, c4, c5, c6, c7⟩ := C.out w4 X4.out
      have HV : Hid (R = false) := RR.out.trans (by rw [bokB_2 G.out, DN.out]; rfl)
      go_wp2_with fail
      go_ret
      exact ⟨ret_b HV.out.symm, N.out.trans (X4.out.alloc _)⟩
    by_cases k3 : k = 3
    · subst k3
      by_cases hF : fn.size = 0
      · have f0 : fn.toList.isEmpty = true := empty_size hF
        by_cases ht : tlen ts = 1
        · have ht1 : ((tlen ts : Int) == 1) = true := by rw [beq_iff_eq]; omega
          have htH : Hid (tlen ts = 1) := ht
          clear ht
          by_cases hz : nm.length = tlen tz
          · have hz1 : ((nm.length : Int) == (tlen tz : Int)) = true := by rw [beq_iff_eq]; omega
            have hzH : Hid (nm.length = tlen tz) := hz
            clear hz
            by_cases he : nm.length = tlen ez
            · have he1 : ((nm.length : Int) == (tlen ez : Int)) = true := by rw [beq_iff_eq]; omega
              have heH : Hid (nm.length = tlen ez) := he
              clear he
              have HV : Hid (R = true) := RR.out.trans (by rw [bokB_3, decide_eq_true hF, decide_eq_true htH.out, decide_eq_true hzH.out, decide_eq_true heH.out]; rfl)
              go_wp2_with fail
              go_ret
              exact ⟨ret_b HV.out.symm, N.out.trans X1.out⟩
            · have he1 : ((nm.length : Int) == (tlen ez : Int)) = false := by rw [beq_eq_false_iff_ne]; omega
              have HV : Hid (R = false) := RR.out.trans (by rw [bokB_3, decide_eq_true hF, decide_eq_true htH.out, decide_eq_true hzH.out, decide_eq_false he]; rfl)
              go_wp2_with fail
              go_ret
              exact ⟨ret_b HV.out.symm, N.out.trans X1.out⟩
          · have hz1 : ((nm.length : Int) == (tlen tz : Int)) = false := by rw [beq_eq_false_iff_ne]; omega
            have HV : Hid (R = false) := RR.out.trans (by rw [bokB_3, decide_eq_true hF, decide_eq_true htH.out, decide_eq_false hz]; rfl)
            go_wp2_with fail
            go_ret
            exact ⟨ret_b HV.out.symm, N.out.trans X1.out⟩
        · have ht1 : ((tlen ts : Int) == 1) = false := by rw [beq_eq_false_iff_ne]; omega
          have HV : Hid (R = false) := RR.out.trans (by rw [bokB_3, decide_eq_true hF, decide_eq_false ht]; rfl)
          go_wp2_with fail
          go_ret
          exact ⟨ret_b HV.out.symm, N.out.trans X1.out⟩
      · have f0 : fn.toList.isEmpty = false := full_size hF
        have HV : Hid (R = false) := RR.out.trans (by rw [bokB_3, decide_eq_false hF]; rfl)
        go_wp2_with fail
        go_ret
        exact ⟨ret_b HV.out.symm, N.out.trans X1.out⟩
    have q1 : (k == 1) = false := by rw [beq_eq_false_iff_ne]; exact k1
    have q2 : (k == 2) = false := by rw [beq_eq_false_iff_ne]; exact k2
    have q3 : (k == 3) = false := by rw [beq_eq_false_iff_ne]; exact k3
    have HV : Hid (R = false) := RR.out.trans (bokB_o k1 k2 k3)
    go_wp2_with fail
    go_ret
    exact ⟨ret_b HV.out.symm, N.out.trans X1.out⟩
  | true =>
    go_wp2_with fail
    refine (B2.out _).mono ?_
    rintro e w2 ⟨rfl, hx2⟩
    have X2 : Hid (Ex (w.alloc (.cells #[.int .i64 k, .slice nma nm.length nmc, .string fn, .slice tsa (tlen ts) tsc, .slice tba (blen tb) tbc, .slice tza (tlen tz) tzc, .slice eba (blen eb) ebc, .slice eza (tlen ez) ezc] 55)) w2) := X1.out.trans hx2
    clear hx2 B2 c0 c1 c2 c3 c4 c5 c6 c7
    obtain ⟨c0, c1, c2, c3, c4, c5, c6, c7⟩ := C.out w2 X2.out
    cases b2 with
    | false =>
      by_cases k1 : k = 1
      · subst k1
        have HV : Hid (R = false) := RR.out.trans (by rw [bokB_1, DN.out]; rfl)
        go_wp2_with fail
        go_ret
        exact ⟨ret_b HV.out.symm, N.out.trans X2.out⟩
      by_cases k2 : k = 2
      · subst k2
        go_wp2_with fail
        refine (named_any fs la lc fn _ hl (Q.out _ (N.out.trans X2.out))).mono ?_
        rintro e w4 ⟨gn, a1, np, kk1, a2, nb, kk2, a3, nz, kk3, ok, rfl, hg, hx4⟩
        have G : Hid _ := hg
        have X4 : Hid (Ex _ w4) := X2.out.trans hx4
        have z4 : w.heap.size < w4.heap.size := by have := X4.out.size; rw [World.size_alloc] at this; omega
        clear hg hx4 c0 c1 c2 c3 c4 c5 c6 c7
        obtain ⟨c0, c1, c2, c3, c4, c5, c6, c7⟩ := C.out w4 X4.out
        have HV : Hid (R = false) := RR.out.trans (by rw [bokB_2 G.out, DN.out]; rfl)
        go_wp2_with fail
        go_ret
        exact ⟨ret_b HV.out.symm, N.out.trans (X4.out.alloc _)⟩
      by_cases k3 : k = 3
      · subst k3
        by_cases hF : fn.size = 0
        · have f0 : fn.toList.isEmpty = true := empty_size hF
          by_cases ht : tlen ts = 1
          · have ht1 : ((tlen ts : Int) == 1) = true := by rw [beq_iff_eq]; omega
            have htH : Hid (tlen ts = 1) := ht
            clear ht
            by_cases hz : nm.length = tlen tz
            · have hz1 : ((nm.length : Int) == (tlen tz : Int)) = true := by rw [beq_iff_eq]; omega
              have hzH : Hid (nm.length = tlen tz) := hz
              clear hz
              by_cases he : nm.length = tlen ez
              · have he1 : ((nm.length : Int) == (tlen ez : Int)) = true := by rw [beq_iff_eq]; omega
                have heH : Hid (nm.length = tlen ez) := he
                clear he
                have HV : Hid (R = true) := RR.out.trans (by rw [bokB_3, decide_eq_true hF, decide_eq_true htH.out, decide_eq_true hzH.out, decide_eq_true heH.out]; rfl)
                go_wp2_with fail
                go_ret
                exact ⟨ret_b HV.out.symm, N.out.trans X2.out⟩
              · have he1 : ((nm.length : Int) == (tlen ez : Int)) = false := by rw [beq_eq_false_iff_ne]; omega
                have HV : Hid (R = false) := RR.out.trans (by rw [bokB_3, decide_eq_true hF, decide_eq_true htH.out, decide_eq_true hzH.out, decide_eq_false he]; rfl)
                go_wp2_with fail
                go_ret
                exact ⟨ret_b HV.out.symm, N.out.trans X2.out⟩
            · have hz1 : ((nm.length : Int) == (tlen tz : Int)) = false := by rw [beq_eq_false_iff_ne]; omega
              have HV : Hid (R = false) := RR.out.trans (by rw [bokB_3, decide_eq_true hF, decide_eq_true htH.out, decide_eq_false hz]; rfl)
              go_wp2_with fail
              go_ret
              exact ⟨ret_b HV.out.symm, N.out.trans X2.out⟩
          · have ht1 : ((tlen ts : Int) == 1) = false := by rw [beq_eq_false_iff_ne]; omega
            have HV : Hid (R = false) := RR.out.trans (by rw [bokB_3, decide_eq_true hF, decide_eq_false ht]; rfl)
            go_wp2_with fail
            go_ret
            exact ⟨ret_b HV.out.symm, N.out.trans X2.out⟩
        · have f0 : fn.toList.isEmpty = false := full_size hF
          have HV : Hid (R = false) := RR.out.trans (by rw [bokB_3, decide_eq_false hF]; rfl)
          go_wp2_with fail
          go_ret
          exact ⟨ret_b HV.out.symm, N.out.trans X2.out⟩
      have q1 : (k == 1) = false := by rw [beq_eq_false_iff_ne]; exact k1
      have q2 : (k == 2) = false := by rw [beq_eq_false_iff_ne]; exact k2
      have q3 : (k == 3) = false := by rw [beq_eq_false_iff_ne]; exact k3
      have HV : Hid (R = false) := RR.out.trans (bokB_o k1 k2 k3)
      go_wp2_with fail
      go_ret
      exact ⟨ret_b HV.out.symm, N.out.trans X2.out⟩
    | true =>
      by_cases k1 : k = 1
      · subst k1
        by_cases hF : fn.size = 0
        · have f0 : fn.toList.isEmpty = true := empty_size hF
          by_cases ht : tlen ts = 1
          · have ht1 : ((tlen ts : Int) == 1) = true := by rw [beq_iff_eq]; omega
            have htH : Hid (tlen ts = 1) := ht
            clear ht
            by_cases hn : nm.length = 1
            · have hn1 : ((nm.length : Int) == 1) = true := by rw [beq_iff_eq]; omega
              have hnH : Hid (nm.length = 1) := hn
              clear hn
              have HV : Hid (R = true) := RR.out.trans (by rw [bokB_1, DN.out, decide_eq_true hF, decide_eq_true htH.out, decide_eq_true hnH.out]; rfl)
              go_wp2_with fail
              go_ret
              exact ⟨ret_b HV.out.symm, N.out.trans X2.out⟩
            · have hn1 : ((nm.length : Int) == 1) = false := by rw [beq_eq_false_iff_ne]; omega
              have HV : Hid (R = false) := RR.out.trans (by rw [bokB_1, DN.out, decide_eq_true hF, decide_eq_true htH.out, decide_eq_false hn]; rfl)
              go_wp2_with fail
              go_ret
              exact ⟨ret_b HV.out.symm, N.out.trans X2.out⟩
          · have ht1 : ((tlen ts : Int) == 1) = false := by rw [beq_eq_false_iff_ne]; omega
            have HV : Hid (R = false) := RR.out.trans (by rw [bokB_1, DN.out, decide_eq_true hF, decide_eq_false ht]; rfl)
            go_wp2_with fail
            go_ret
            exact ⟨ret_b HV.out.symm, N.out.trans X2.out⟩
        · have f0 : fn.toList.isEmpty = false := full_size hF
          have HV : Hid (R = false) := RR.out.trans (by rw [bokB_1, DN.out, decide_eq_false hF]; rfl)
          go_wp2_with fail
          go_ret
          exact ⟨ret_b HV.out.symm, N.out.trans X2.out⟩
      by_cases k2 : k = 2
      · subst k2
        go_wp2_with fail
        refine (named_any fs la lc fn _ hl (Q.out _ (N.out.trans X2.out))).mono ?_
        rintro e w4 ⟨gn, a1, np, kk1, a2, nb, kk2, a3, nz, kk3, ok, rfl, hg, hx4⟩
        have G : Hid _ := hg
        have X4 : Hid (Ex _ w4) := X2.out.trans hx4
        have z4 : w.heap.size < w4.heap.size := by have := X4.out.size; rw [World.size_alloc] at this; omega
        clear hg hx4 c0 c1 c2 c3 c4 c5 c6 c7
        obtain ⟨c0, c1, c2, c3, c4, c5, c6, c7⟩ := C.out w4 X4.out
        cases ok with
        | false =>
          have HV : Hid (R = false) := RR.out.trans (by rw [bokB_2 G.out, DN.out]; rfl)
          go_wp2_with fail
          go_ret
          exact ⟨ret_b HV.out.symm, N.out.trans (X4.out.alloc _)⟩
        | true =>
          by_cases ht : tlen ts = np
          · have ht1 : ((tlen ts : Int) == (np : Int)) = true := by rw [beq_iff_eq]; omega
            have htH : Hid (tlen ts = np) := ht
            clear ht
            by_cases hn : nm.length = nz
            · have hn1 : ((nm.length : Int) == (nz : Int)) = true := by rw [beq_iff_eq]; omega
              have hnH : Hid (nm.length = nz) := hn
              clear hn
              have HV : Hid (R = true) := RR.out.trans (by rw [bokB_2 G.out, DN.out, decide_eq_true htH.out, decide_eq_true hnH.out]; rfl)
              go_wp2_with fail
              go_ret
              exact ⟨ret_b HV.out.symm, N.out.trans (X4.out.alloc _)⟩
            · have hn1 : ((nm.length : Int) == (nz : Int)) = false := by rw [beq_eq_false_iff_ne]; omega
              have HV : Hid (R = false) := RR.out.trans (by rw [bokB_2 G.out, DN.out, decide_eq_true htH.out, decide_eq_false hn]; rfl)
              go_wp2_with fail
              go_ret
              exact ⟨ret_b HV.out.symm, N.out.trans (X4.out.alloc _)⟩
          · have ht1 : ((tlen ts : Int) == (np : Int)) = false := by rw [beq_eq_false_iff_ne]; omega
            have HV : Hid (R = false) := RR.out.trans (by rw [bokB_2 G.out, DN.out, decide_eq_false ht]; rfl)
            go_wp2_with fail
            go_ret
            exact ⟨ret_b HV.out.symm, N.out.trans (X4.out.alloc _)⟩
      by_cases k3 : k = 3
      · subst k3
        by_cases hF : fn.size = 0
        · have f0 : fn.toList.isEmpty = true := empty_size hF
          by_cases ht : tlen ts = 1
          · have ht1 : ((tlen ts : Int) == 1) = true := by rw [beq_iff_eq]; omega
            have htH : Hid (tlen ts = 1) := ht
            clear ht
            by_cases hz : nm.length = tlen tz
            · have hz1 : ((nm.length : Int) == (tlen tz : Int)) = true := by rw [beq_iff_eq]; omega
              have hzH : Hid (nm.length = tlen tz) := hz
              clear hz
              by_cases he : nm.length = tlen ez
              · have he1 : ((nm.length : Int) == (tlen ez : Int)) = true := by rw [beq_iff_eq]; omega
                have heH : Hid (nm.length = tlen ez) := he
                clear he
                have HV : Hid (R = true) := RR.out.trans (by rw [bokB_3, decide_eq_true hF, decide_eq_true htH.out, decide_eq_true hzH.out, decide_eq_true heH.out]; rfl)
                go_wp2_with fail
                go_ret
                exact ⟨ret_b HV.out.symm, N.out.trans X2.out⟩
              · have he1 : ((nm.length : Int) == (tlen ez : Int)) = false := by rw [beq_eq_false_iff_ne]; omega
                have HV : Hid (R = false) := RR.out.trans (by rw [bokB_3, decide_eq_true hF, decide_eq_true htH.out, decide_eq_true hzH.out, decide_eq_false he]; rfl)
                go_wp2_with fail
                go_ret
                exact ⟨ret_b HV.out.symm, N.out.trans X2.out⟩
            · have hz1 : ((nm.length : Int) == (tlen tz : Int)) = false := by rw [beq_eq_false_iff_ne]; omega
              have HV : Hid (R = false) := RR.out.trans (by rw [bokB_3, decide_eq_true hF, decide_eq_true htH.out, decide_eq_false hz]; rfl)
              go_wp2_with fail
              go_ret
              exact ⟨ret_b HV.out.symm, N.out.trans X2.out⟩
          · have ht1 : ((tlen ts : Int) == 1) = false := by rw [beq_eq_false_iff_ne]; omega
            have HV : Hid (R = false) := RR.out.trans (by rw [bokB_3, decide_eq_true hF, decide_eq_false ht]; rfl)
            go_wp2_with fail
            go_ret
            exact ⟨ret_b HV.out.symm, N.out.trans X2.out⟩
        · have f0 : fn.toList.isEmpty = false := full_size hF
          have HV : Hid (R = false) := RR.out.trans (by rw [bokB_3, decide_eq_false hF]; rfl)
          go_wp2_with fail
          go_ret
          exact ⟨ret_b HV.out.symm, N.out.trans X2.out⟩
      have q1 : (k == 1) = false := by rw [beq_eq_false_iff_ne]; exact k1
      have q2 : (k == 2) = false := by rw [beq_eq_false_iff_ne]; exact k2
      have q3 : (k == 3) = false := by rw [beq_eq_false_iff_ne]; exact k3
      have HV : Hid (R = false) := RR.out.trans (bokB_o k1 k2 k3)
      go_wp2_with fail
      go_ret
      exact ⟨ret_b HV.out.symm, N.out.trans X2.out⟩

end Go.Proofs.YtgpdnoghlommeaaDoor
