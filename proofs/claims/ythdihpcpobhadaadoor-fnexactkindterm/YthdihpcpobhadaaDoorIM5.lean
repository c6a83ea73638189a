/- Walks: the program's terms that are ok by names. -/
import Derived.Test.YthdihpcpobhadaaDoorIM4

namespace Go.Proofs.YthdihpcpobhadaaDoor

open Go.RowKit Go.Deep Go.Maps Go.WideMaps

attribute [local go_sem ↓] Go.wp_at_zero Go.wp_at_succ

theorem pathB_none {p : List Int} (h : p.length = 0) : pathB p = true := by
  have := List.length_eq_zero_iff.mp h
  subst this; rfl
theorem own_tok (ns : List ByteArray) (k n : Int) (s : ByteArray) (p : List Int) (l : Nat) : ((decide (l ≤ 2) && decide (p.length ≤ 4)) && (pathB p && ownB ns k n s p l)) = (tokB k n s p l && (!decide (k = 2) || hasB ns s)) := by
  by_cases k1 : k = 1
  · subst k1
    by_cases hs : s.size = 0
    · by_cases hp : p.length = 0
      · rw [ownB_1 hs hp, tokB_1, pathB_none hp, decide_eq_true hs, decide_eq_true hp, decide_eq_true (show p.length ≤ 4 by omega)]
        by_cases hl : l = 0
        · subst hl; simp
        · simp [hl]
      · rw [ownB_p (by decide) hp, tokB_1, decide_eq_true hs, decide_eq_false hp]; simp
    · rw [ownB_s (by decide) hs, tokB_1, decide_eq_false hs]; simp
  by_cases k2 : k = 2
  · subst k2
    by_cases hn : n = 0
    · by_cases hp : p.length = 0
      · rw [ownB_2 hn hp, tokB_2, pathB_none hp, decide_eq_true hn, decide_eq_true hp, decide_eq_true (show p.length ≤ 4 by omega)]
        by_cases hl : l = 0
        · subst hl; simp
        · simp [hl]
      · rw [ownB_p (by decide) hp, tokB_2, decide_eq_true hn, decide_eq_false hp]; simp
    · rw [ownB_n (by decide) hn, tokB_2, decide_eq_false hn]; simp
  rw [decide_eq_false k2]
  by_cases k7 : k = 7
  · subst k7
    by_cases hn : n = 0
    · by_cases hs : s.size = 0
      · rw [ownB_7 hn hs, tokB_7, decide_eq_true hn, decide_eq_true hs]
        by_cases hl : l = 1
        · subst hl; simp
        · simp [hl]
      · rw [ownB_s (by decide) hs, tokB_7, decide_eq_true hn, decide_eq_false hs]; simp
    · rw [ownB_n (by decide) hn, tokB_7, decide_eq_false hn]; simp
  by_cases k8 : k = 8
  · subst k8
    by_cases hn : n = 0
    · by_cases hs : s.size = 0
      · rw [ownB_8 hn hs, tokB_8, decide_eq_true hn, decide_eq_true hs]
        by_cases hl : l = 2
        · subst hl; simp
        · simp [hl]
      · rw [ownB_s (by decide) hs, tokB_8, decide_eq_true hn, decide_eq_false hs]; simp
    · rw [ownB_n (by decide) hn, tokB_8, decide_eq_false hn]; simp
  by_cases hk : k = 3 ∨ k = 4 ∨ k = 5 ∨ k = 6
  · rw [tokB_3 hk]
    by_cases hn : n = 0
    · by_cases hs : s.size = 0
      · by_cases hp : p.length = 0
        · rw [ownB_o k1 k2 k7 hn hs hp, pathB_none hp, decide_eq_true hn, decide_eq_true hs, decide_eq_true hp, decide_eq_true (show p.length ≤ 4 by omega), decide_eq_true (show 3 ≤ k ∧ k ≤ 8 by omega)]
          by_cases hl : l = 2
          · subst hl; simp
          · simp [hl]
        · rw [ownB_p (by omega) hp, decide_eq_true hn, decide_eq_true hs, decide_eq_false hp]; simp
      · rw [ownB_s k2 hs, decide_eq_true hn, decide_eq_false hs]; simp
    · rw [ownB_n k1 hn, decide_eq_false hn]; simp
  · rw [tokB_o (by omega)]
    by_cases hn : n = 0
    · by_cases hs : s.size = 0
      · by_cases hp : p.length = 0
        · rw [ownB_o k1 k2 k7 hn hs hp, decide_eq_false (show ¬ (3 ≤ k ∧ k ≤ 8) by omega)]; simp
        · rw [ownB_p (by omega) hp]; simp
      · rw [ownB_s k2 hs]; simp
    · rw [ownB_n k1 hn]; simp

/-- All terms of a list are ok by names. -/
def kidsB (ns : List ByteArray) (d : Nat) (f : TM) : Bool := (List.range (tlen f)).all fun i => kidB ns d f i
theorem kidsB_no {ns : List ByteArray} {d : Nat} {f : TM} {i : Nat} (h : i < tlen f) (hb : kidB ns d f i = false) : kidsB ns d f = false := by
  simp only [kidsB]
  rw [List.all_eq_false]
  exact ⟨i, List.mem_range.2 h, by rw [hb]; simp⟩
theorem kidsB_yes {ns : List ByteArray} {d : Nat} {f : TM} (h : ∀ i, i < tlen f → kidB ns d f i = true) : kidsB ns d f = true := by
  simp only [kidsB]
  rw [List.all_eq_true]
  exact fun i hi => h i (List.mem_range.1 hi)
theorem termB_tok (ns : List ByteArray) (d : Nat) (k n : Int) (s : ByteArray) (p : List Int) (f : TM) : termB ns (d + 1) k n s p f = (tokB k n s p (tlen f) && ((!decide (k = 2) || hasB ns s) && kidsB ns d f)) := by
  have h := own_tok ns k n s p (tlen f)
  show ((decide (tlen f ≤ 2) && decide (p.length ≤ 4)) && (kidsB ns d f && (pathB p && ownB ns k n s p (tlen f)))) = _
  rw [← Bool.and_assoc (tokB _ _ _ _ _), ← h]
  cases kidsB ns d f <;> simp

/-- The fault, and none. -/
abbrev EV (ea : Addr) : Value := .iface 135 (.pointer (some ea))
def errV (ea : Addr) (ok : Bool) : Value := if ok then .nilIface else EV ea
def ErrP (ea : Addr) (ok : Bool) (w : World) (e : Ending) (w' : World) : Prop := e = .returned (errV ea ok) ∧ Ex w w'

set_option maxRecDepth 100000 in
set_option maxHeartbeats 2000000 in
theorem term_by (ea : Addr) (aa : Option Addr) (al ac mb m : Nat) (ns : List ByteArray) (k n : Int) (s : ByteArray) (p : List Int) (pa : Option Addr) (pc : Nat) (f : TM) (a : Option Addr) (c d : Nat) (hd : d ≤ 1000) (w : World)
    (hG : w.cell? ⟨0, 0, none⟩ = some (EV ea)) (hC : CM w mb m ns) (hs : s.size ≤ 9223372036854775807) (hP : PA w 0 p pa)
    (hK : ∀ w', Ex w w' → Calls Tryd.prog 73 #[.agg #[.slice aa al ac, .map (some mb)], .slice a (tlen f) c, .int .i64 d] w' (ErrP ea (kidsB ns d f) w')) :
    Calls Tryd.prog 67 #[.agg #[.slice aa al ac, .map (some mb)], .agg #[.int .i64 k, .int .i64 n, .string s, .slice pa p.length pc, .slice a (tlen f) c], .int .i64 (d + 1 : Nat)] w (ErrP ea (termB ns (d + 1) k n s p f) w) := by
  have G : Hid (∀ w', Ex w w' → w'.cell? ⟨0, 0, none⟩ = some (EV ea)) := fun w' h => h.at hG
  have CC : Hid (∀ w', Ex w w' → CM w' mb m ns) := fun w' h => hC.ex h
  have P : Hid (∀ w', Ex w w' → PA w' 0 p pa) := fun _ h => PA_below hP h
  have K : Hid _ := hK
  have SZ : Hid _ := hs
  have N : Hid (Ex w ((w.alloc (.cells #[.slice aa al ac, .map (some mb)] 102)).alloc (.cells #[.int .i64 k, .int .i64 n, .string s, .slice pa p.length pc, .slice a (tlen f) c] 28))) := (Ex.new _ _).alloc _
  have C : Hid (∀ w', Ex ((w.alloc (.cells #[.slice aa al ac, .map (some mb)] 102)).alloc (.cells #[.int .i64 k, .int .i64 n, .string s, .slice pa p.length pc, .slice a (tlen f) c] 28)) w' → w'.cell? ⟨w.heap.size, 0, none⟩ = some (.slice aa al ac) ∧ w'.cell? ⟨w.heap.size, 1, none⟩ = some (.map (some mb)) ∧ w'.cell? ⟨w.heap.size + 1, 0, none⟩ = some (.int .i64 k) ∧ w'.cell? ⟨w.heap.size + 1, 1, none⟩ = some (.int .i64 n) ∧ w'.cell? ⟨w.heap.size + 1, 2, none⟩ = some (.string s) ∧ w'.cell? ⟨w.heap.size + 1, 3, none⟩ = some (.slice pa p.length pc) ∧ w'.cell? ⟨w.heap.size + 1, 4, none⟩ = some (.slice a (tlen f) c)) := fun w' h => ⟨h.at (by simp), h.at (by simp), h.at (by simp), h.at (by simp), h.at (by simp), h.at (by simp), h.at (by simp)⟩
  have HT : Hid (termB ns (d + 1) k n s p f = (tokB k n s p (tlen f) && ((!decide (k = 2) || hasB ns s) && kidsB ns d f))) := termB_tok ns d k n s p f
  obtain ⟨R, hR⟩ : ∃ R, R = termB ns (d + 1) k n s p f := ⟨_, rfl⟩
  rw [← hR] at HT ⊢
  obtain ⟨bt, hbt⟩ : ∃ b, tokB k n s p (tlen f) = b := ⟨_, rfl⟩
  have TO : Hid (∀ w', Ex w w' → Calls Tryd.prog 72 #[.agg #[.int .i64 k, .int .i64 n, .string s, .slice pa p.length pc, .slice a (tlen f) c]] w' fun e w'' => e = .returned (.bool bt) ∧ Ex w' w'') := fun w' h => by have := termOk_any k n s p pa pc (tlen f) a c w' (P.out w' h); rw [hbt] at this; exact this
  rw [hbt] at HT
  obtain ⟨D, hD⟩ : ∃ D : Int, D = ((d + 1 : Nat) : Int) := ⟨_, rfl⟩
  rw [← hD]
  have d0 : (D == 0) = false := by rw [beq_eq_false_iff_ne]; omega
  have d3 : D - 1 = (d : Int) := by omega
  have d4 : IntKind.i64.wrap (D - 1) = (d : Int) := by rw [d3]; exact IntWalk.i64_in _ (by omega)
  clear hR hbt hG hC hP hK hs hD P
  go_enter Tryd.func67, Tryd.ntmps67
  go_wp2_with fail
  refine (TO.out _ N.out).mono ?_
  rintro e w1 ⟨rfl, hb1⟩
  have X1 : Hid (Ex ((w.alloc (.cells #[.slice aa al ac, .map (some mb)] 102)).alloc (.cells #[.int .i64 k, .int .i64 n, .string s, .slice pa p.length pc, .slice a (tlen f) c] 28)) w1) := hb1
  obtain ⟨c0, c1, c2, c3, c4, c5, c6⟩ := C.out w1 hb1
  have g0 := G.out w1 (N.out.trans hb1)
  clear hb1 TO
  cases bt with
  | false =>
    have HR : Hid (R = false) := HT.out
    go_wp2_with fail
    go_ret
    exact ⟨by rw [HR.out]; rfl, N.out.trans X1.out⟩
  | true =>
    have FIN : Hid (∀ w', Ex ((w.alloc (.cells #[.slice aa al ac, .map (some mb)] 102)).alloc (.cells #[.int .i64 k, .int .i64 n, .string s, .slice pa p.length pc, .slice a (tlen f) c] 28)) w' → R = kidsB ns d f → Calls Tryd.prog 73 #[.agg #[.slice aa al ac, .map (some mb)], .slice a (tlen f) c, .int .i64 d] w' (ErrP ea R w')) := fun w' h hr => by rw [hr]; exact K.out w' (N.out.trans h)
    clear K
    by_cases k2 : k = 2
    · have q2 : (k == 2) = true := by rw [beq_iff_eq]; exact k2
      have hrun := (CC.out w1 (N.out.trans X1.out)).look SZ.out
      have hcl := cntN_le ns s
      have HB : Hid (hasB ns s = decide (cntN ns s ≠ 0)) := cntN_has _ _
      have HT2 : Hid (R = (hasB ns s && kidsB ns d f)) := HT.out.trans (by rw [decide_eq_true k2]; rfl)
      have K2 : Hid (k = 2) := k2
      obtain ⟨cn, hce⟩ : ∃ cn, cntN ns s = cn := ⟨_, rfl⟩
      rw [hce] at hrun hcl HB
      clear hce k2
      by_cases h0 : cn = 0
      · have e0 : ((cn : Int) == 0) = true := by rw [beq_iff_eq]; omega
        have HR : Hid (R = false) := HT2.out.trans (by rw [HB.out, decide_eq_false (by omega)]; rfl)
        clear h0
        go_wp2_with fail
        go_ret
        exact ⟨by rw [HR.out]; rfl, N.out.trans X1.out⟩
      · have e0 : ((cn : Int) == 0) = false := by rw [beq_eq_false_iff_ne]; omega
        have HR : Hid (R = kidsB ns d f) := HT2.out.trans (by rw [HB.out, decide_eq_true h0]; rfl)
        clear h0
        go_wp2_with fail
        refine (FIN.out _ X1.out HR.out).mono ?_
        rintro e w2 ⟨rfl, hb2⟩
        go_wp2_with fail
        go_ret
        exact ⟨rfl, N.out.trans (X1.out.trans hb2)⟩
    · have q2 : (k == 2) = false := by rw [beq_eq_false_iff_ne]; exact k2
      have HR : Hid (R = kidsB ns d f) := HT.out.trans (by rw [decide_eq_false k2]; rfl)
      go_wp2_with fail
      refine (FIN.out _ X1.out HR.out).mono ?_
      rintro e w2 ⟨rfl, hb2⟩
      go_wp2_with fail
      go_ret
      exact ⟨rfl, N.out.trans (X1.out.trans hb2)⟩

set_option maxRecDepth 100000 in
set_option maxHeartbeats 2000000 in
theorem term_zero (ea : Addr) (aa : Option Addr) (al ac mb : Nat) (k n : Int) (s : ByteArray) (p : List Int) (pa : Option Addr) (pc : Nat) (f : TM) (a : Option Addr) (c : Nat) (w : World) (hG : w.cell? ⟨0, 0, none⟩ = some (EV ea)) :
    Calls Tryd.prog 67 #[.agg #[.slice aa al ac, .map (some mb)], .agg #[.int .i64 k, .int .i64 n, .string s, .slice pa p.length pc, .slice a (tlen f) c], .int .i64 (0 : Nat)] w (ErrP ea false w) := by
  have g0 : ((w.alloc (.cells #[.slice aa al ac, .map (some mb)] 102)).alloc (.cells #[.int .i64 k, .int .i64 n, .string s, .slice pa p.length pc, .slice a (tlen f) c] 28)).cell? ⟨0, 0, none⟩ = some (EV ea) := ((Ex.new _ _).alloc _).at hG
  go_enter Tryd.func67, Tryd.ntmps67
  go_wp2_with fail
  go_ret
  exact ⟨rfl, (Ex.new _ _).alloc _⟩

set_option maxRecDepth 100000 in
set_option maxHeartbeats 2000000 in
theorem terms_by (ea : Addr) (aa : Option Addr) (al ac mb : Nat) (ns : List ByteArray) (f : TM) (a : Option Addr) (c d : Nat) (w : World) (hM : MA w 0 f a) (hl : tlen f ≤ 1000000000)
    (hK : ∀ j, j < tlen f → ∀ (pa : Option Addr) (pc : Nat) (a' : Option Addr) (c' : Nat) (w' : World), Ex w w' → PA w' 0 (tpath f j) pa → MA w' 0 (tkid f j) a' → Calls Tryd.prog 67 #[.agg #[.slice aa al ac, .map (some mb)], .agg #[.int .i64 (tkind f j), .int .i64 (tnum f j), .string (tname f j), .slice pa (tpath f j).length pc, .slice a' (tlen (tkid f j)) c'], .int .i64 d] w' (ErrP ea (kidB ns d f j) w')) :
    Calls Tryd.prog 73 #[.agg #[.slice aa al ac, .map (some mb)], .slice a (tlen f) c, .int .i64 d] w (ErrP ea (kidsB ns d f) w) := by
  have M : Hid (∀ w', Ex w w' → MA w' 0 f a) := fun _ h => MA_below hM h
  have I : Hid _ := hK
  have N : Hid (Ex w (w.alloc (.cells #[.slice aa al ac, .map (some mb)] 102))) := Ex.new _ _
  have C : Hid (∀ w', Ex (w.alloc (.cells #[.slice aa al ac, .map (some mb)] 102)) w' → w'.cell? ⟨w.heap.size, 0, none⟩ = some (.slice aa al ac) ∧ w'.cell? ⟨w.heap.size, 1, none⟩ = some (.map (some mb))) := fun w' h => ⟨h.at (by simp), h.at (by simp)⟩
  clear hM hK
  obtain ⟨R, hR⟩ : ∃ R, R = kidsB ns d f := ⟨_, rfl⟩
  have RR : Hid (R = kidsB ns d f) := hR
  rw [← hR]
  clear hR
  go_enter Tryd.func73, Tryd.ntmps73
  go_wp2_with fail
  go_loopw [8, 9, 12] (fun _ _ i wr => ∃ (j : Nat), j ≤ tlen f ∧ i = .int .i64 j ∧ (∀ l, l < j → kidB ns d f l = true) ∧ Ex (w.alloc (.cells #[.slice aa al ac, .map (some mb)] 102)) wr) (fun _ _ i _ => tlen f - (intOf i).toNat)
  case atStart => exact ⟨0, by omega, rfl, fun j hj => by omega, Ex.refl _⟩
  case round =>
    obtain ⟨j, hj, rfl, hall, hx⟩ := hrel
    have A : Hid (∀ l, l < j → kidB ns d f l = true) := hall
    have E : Hid (Ex (w.alloc (.cells #[.slice aa al ac, .map (some mb)] 102)) wr) := hx
    obtain ⟨c0, c1⟩ := C.out wr hx
    clear hall hx
    by_cases hlt : j < tlen f
    · obtain ⟨b, o, rfl, _, hbs, hk⟩ := MA_at (M.out wr (N.out.trans E.out)) (by omega)
      obtain ⟨e0, e1, e2, ⟨pa, pc, e3, hp'⟩, a', c', e4, hm'⟩ := hk j hlt
      have HI : Hid (∀ w', Ex wr w' → Calls Tryd.prog 67 #[.agg #[.slice aa al ac, .map (some mb)], .agg #[.int .i64 (tkind f j), .int .i64 (tnum f j), .string (tname f j), .slice pa (tpath f j).length pc, .slice a' (tlen (tkid f j)) c'], .int .i64 d] w' (ErrP ea (kidB ns d f j) w')) := fun w' h => I.out j hlt pa pc a' c' w' (N.out.trans (E.out.trans h)) (PA_below (PS_pa.1 hp'.1) h) (MA_below hm' h)
      have U : Hid (kidB ns d f j = true → ∀ l, l < j + 1 → kidB ns d f l = true) := fun h => upto_succ A.out h
      have V : Hid (kidB ns d f j = false → R = false) := fun h => RR.out.trans (kidsB_no hlt h)
      clear hk hp' hm'
      have zr : w.heap.size < wr.heap.size := by have := E.out.size; rw [World.size_alloc] at this; omega
      go_wp2_with fail
      refine Calls.mono (HI.out _ (Ex.new _ _)) ?_
      rintro e w1 ⟨rfl, hb1⟩
      have E1 : Hid (Ex (w.alloc (.cells #[.slice aa al ac, .map (some mb)] 102)) w1) := E.out.trans ((Ex.new _ _).trans hb1)
      clear hb1 HI
      cases hkb : kidB ns d f j with
      | false =>
        have HR : Hid (R = false) := V.out hkb
        clear hkb
        simp only [errV, Bool.false_eq_true, if_false]
        go_wp2_with fail
        go_ret
        exact ⟨by rw [HR.out]; rfl, N.out.trans E1.out⟩
      | true =>
        have HU : Hid _ := U.out hkb
        clear hkb
        simp only [errV, if_true]
        go_wp2_with fail
        go_roundw
        case rel => exact ⟨j + 1, by omega, by go_num, HU.out, E1.out⟩
        case measure => simp [intOf]; omega
    · have HR : Hid (R = true) := RR.out.trans (kidsB_yes fun l hl => A.out l (by omega))
      go_wp2_with fail
      go_ret
      exact ⟨by rw [HR.out]; rfl, N.out.trans E.out⟩

theorem terms_any (ea : Addr) (aa : Option Addr) (al ac mb m : Nat) (ns : List ByteArray) : ∀ (d : Nat) (f : TM) (a : Option Addr) (c : Nat) (w : World), d ≤ 1000 → w.cell? ⟨0, 0, none⟩ = some (EV ea) → CM w mb m ns → MA w 0 f a → tlen f ≤ 1000000000 → TSm f → TLm f →
    Calls Tryd.prog 73 #[.agg #[.slice aa al ac, .map (some mb)], .slice a (tlen f) c, .int .i64 d] w (ErrP ea (kidsB ns d f) w) := by
  intro d
  induction d with
  | zero =>
    intro f a c w _ hG _ hM hl _ _
    exact terms_by ea aa al ac mb ns f a c 0 w hM hl fun j hj pa pc a' c' w' hx _ _ => term_zero ea aa al ac mb _ _ _ _ pa pc _ a' c' w' (hx.at hG)
  | succ d ih =>
    intro f a c w hd hG hC hM hl hsm hlm
    refine terms_by ea aa al ac mb ns f a c (d + 1) w hM hl fun j hj pa pc a' c' w' hx hp hm => ?_
    obtain ⟨g1, g2, g3⟩ := TSm_kid hsm j hj
    obtain ⟨h1, h2, h3, h4⟩ := TLm_at hlm j hj
    exact term_by ea aa al ac mb m ns _ _ _ _ pa pc _ a' c' d (by omega) w' (hx.at hG) (hC.ex hx) h1 hp fun w2 hx2 => ih _ a' c' w2 (by omega) ((hx.trans hx2).at hG) (hC.ex (hx.trans hx2)) (MA_below hm hx2) g2 g3 h4

end Go.Proofs.YthdihpcpobhadaaDoor
