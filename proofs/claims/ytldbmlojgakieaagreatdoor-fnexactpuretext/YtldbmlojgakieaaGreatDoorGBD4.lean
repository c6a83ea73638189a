/- Walks: the program's terms that are ok by names. Walks: a binding that is ok. -/
import Derived.Test.YtldbmlojgakieaaGreatDoorGIM4
import Derived.Test.YtldbmlojgakieaaGreatDoorGSZ2
import Derived.Deep.RegionHeld3
namespace Go.Proofs.YtldbmlojgakieaaGreatDoor

open Go.RowKit Go.Deep Go.Maps Go.WideMaps

attribute [local go_sem ↓] Go.wp_at_zero Go.wp_at_succ

theorem pathB_none {p : List Int} (h : p.length = 0) : pathB p = true := by
  have := List.length_eq_zero_iff.mp h
  subst this; rfl
theorem own_tok (ns : List ByteArray) (k n : Int) (s : ByteArray) (p : List Int) (l : Nat) : ((decide (l ≤ 2) && decide (p.length ≤ 4)) && (pathB p && ownB ns k n s p l)) = (tokB k n s p l && (!decide (k = 2) || hasB ns s)) := by
  by_cases k1 : k = 1
  · subst k1
    by_cases hs : s.size = 0
    · by_cases hp : p.length = 0
      · rw [ownB_1 hs hp, tokB_1, pathB_none hp, decide_eq_true hs, decide_eq_true hp, decide_eq_true (show p.length ≤ 4 by omega)]
        by_cases hl : l = 0
        · subst hl; simp
        · simp [hl]
      · rw [ownB_p (by decide) hp, tokB_1, decide_eq_true hs, decide_eq_false hp]; simp
    · rw [ownB_s (by decide) hs, tokB_1, decide_eq_false hs]; simp
  by_cases k2 : k = 2
  · subst k2
    by_cases hn : n = 0
    · by_cases hp : p.length = 0
      · rw [ownB_2 hn hp, tokB_2, pathB_none hp, decide_eq_true hn, decide_eq_true hp, decide_eq_true (show p.length ≤ 4 by omega)]
        by_cases hl : l = 0
        · subst hl; simp
        · simp [hl]
      · rw [ownB_p (by decide) hp, tokB_2, decide_eq_true hn, decide_eq_false hp]; simp
    · rw [ownB_n (by decide) hn, tokB_2, decide_eq_false hn]; simp
  rw [decide_eq_false k2]
  by_cases k7 : k = 7
  · subst k7
    by_cases hn : n = 0
    · by_cases hs : s.size = 0
      · rw [ownB_7 hn hs, tokB_7, decide_eq_true hn, decide_eq_true hs]
        by_cases hl : l = 1
        · subst hl; simp
        · simp [hl]
      · rw [ownB_s (by decide) hs, tokB_7, decide_eq_true hn, decide_eq_false hs]; simp
    · rw [ownB_n (by decide) hn, tokB_7, decide_eq_false hn]; simp
  by_cases k8 : k = 8
  · subst k8
    by_cases hn : n = 0
    · by_cases hs : s.size = 0
      · rw [ownB_8 hn hs, tokB_8, decide_eq_true hn, decide_eq_true hs]
        by_cases hl : l = 2
        · subst hl; simp
        · simp [hl]
      · rw [ownB_s (by decide) hs, tokB_8, decide_eq_true hn, decide_eq_false hs]; simp
    · rw [ownB_n (by decide) hn, tokB_8, decide_eq_false hn]; simp
  by_cases hk : k = 3 ∨ k = 4 ∨ k = 5 ∨ k = 6
  · rw [tokB_3 hk]
    by_cases hn : n = 0
    · by_cases hs : s.size = 0
      · by_cases hp : p.length = 0
        · rw [ownB_o k1 k2 k7 hn hs hp, pathB_none hp, decide_eq_true hn, decide_eq_true hs, decide_eq_true hp, decide_eq_true (show p.length ≤ 4 by omega), decide_eq_true (show 3 ≤ k ∧ k ≤ 8 by omega)]
          by_cases hl : l = 2
          · subst hl; simp
          · simp [hl]
        · rw [ownB_p (by omega) hp, decide_eq_true hn, decide_eq_true hs, decide_eq_false hp]; simp
      · rw [ownB_s k2 hs, decide_eq_true hn, decide_eq_false hs]; simp
    · rw [ownB_n k1 hn, decide_eq_false hn]; simp
  · rw [tokB_o (by omega)]
    by_cases hn : n = 0
    · by_cases hs : s.size = 0
      · by_cases hp : p.length = 0
        · rw [ownB_o k1 k2 k7 hn hs hp, decide_eq_false (show ¬ (3 ≤ k ∧ k ≤ 8) by omega)]; simp
        · rw [ownB_p (by omega) hp]; simp
      · rw [ownB_s k2 hs]; simp
    · rw [ownB_n k1 hn]; simp

/-- All terms of a list are ok by names. -/
def kidsB (ns : List ByteArray) (d : Nat) (f : TM) : Bool := (List.range (tlen f)).all fun i => kidB ns d f i
theorem kidsB_no {ns : List ByteArray} {d : Nat} {f : TM} {i : Nat} (h : i < tlen f) (hb : kidB ns d f i = false) : kidsB ns d f = false := by
  simp only [kidsB]
  rw [List.all_eq_false]
  exact ⟨i, List.mem_range.2 h, by rw [hb]; simp⟩
theorem kidsB_yes {ns : List ByteArray} {d : Nat} {f : TM} (h : ∀ i, i < tlen f → kidB ns d f i = true) : kidsB ns d f = true := by
  simp only [kidsB]
  rw [List.all_eq_true]
  exact fun i hi => h i (List.mem_range.1 hi)
theorem termB_tok (ns : List ByteArray) (d : Nat) (k n : Int) (s : ByteArray) (p : List Int) (f : TM) : termB ns (d + 1) k n s p f = (tokB k n s p (tlen f) && ((!decide (k = 2) || hasB ns s) && kidsB ns d f)) := by
  have h := own_tok ns k n s p (tlen f)
  show ((decide (tlen f ≤ 2) && decide (p.length ≤ 4)) && (kidsB ns d f && (pathB p && ownB ns k n s p (tlen f)))) = _
  rw [← Bool.and_assoc (tokB _ _ _ _ _), ← h]
  cases kidsB ns d f <;> simp

/-- The fault, and none. -/
abbrev EV (ea : Addr) : Value := .iface 233 (.pointer (some ea))
def errV (ea : Addr) (ok : Bool) : Value := if ok then .nilIface else EV ea
def ErrP (ea : Addr) (ok : Bool) (w : World) (e : Ending) (w' : World) : Prop := e = .returned (errV ea ok) ∧ Ex w w'

set_option maxRecDepth 100000 in
set_option maxHeartbeats 2000000 in
theorem term_by (ea : Addr) (aa : Option Addr) (al ac mb m : Nat) (ns : List ByteArray) (k n : Int) (s : ByteArray) (p : List Int) (pa : Option Addr) (pc : Nat) (f : TM) (a : Option Addr) (c d : Nat) (hd : d ≤ 1000) (w : World)
    (hG : w.cell? ⟨0, 0, none⟩ = some (EV ea)) (hC : CM w mb m ns) (hs : s.size ≤ 9223372036854775807) (hP : PA w 0 p pa)
    (hK : ∀ w', Ex w w' → Calls Tryz.prog 119 #[.agg #[.slice aa al ac, .map (some mb)], .slice a (tlen f) c, .int .i64 d] w' (ErrP ea (kidsB ns d f) w')) :
    Calls Tryz.prog 130 #[.agg #[.slice aa al ac, .map (some mb)], .agg #[.int .i64 k, .int .i64 n, .string s, .slice pa p.length pc, .slice a (tlen f) c], .int .i64 (d + 1 : Nat)] w (ErrP ea (termB ns (d + 1) k n s p f) w) := by
  have G : Hid (∀ w', Ex w w' → w'.cell? ⟨0, 0, none⟩ = some (EV ea)) := fun w' h => h.at hG
  have CC : Hid (∀ w', Ex w w' → CM w' mb m ns) := fun w' h => hC.ex h
  have P : Hid (∀ w', Ex w w' → PA w' 0 p pa) := fun _ h => PA_below hP h
  have K : Hid _ := hK
  have SZ : Hid _ := hs
  have N : Hid (Ex w ((w.alloc (.cells #[.slice aa al ac, .map (some mb)] 177)).alloc (.cells #[.int .i64 k, .int .i64 n, .string s, .slice pa p.length pc, .slice a (tlen f) c] 121))) := (Ex.new _ _).alloc _
  have C : Hid (∀ w', Ex ((w.alloc (.cells #[.slice aa al ac, .map (some mb)] 177)).alloc (.cells #[.int .i64 k, .int .i64 n, .string s, .slice pa p.length pc, .slice a (tlen f) c] 121)) w' → w'.cell? ⟨w.heap.size, 0, none⟩ = some (.slice aa al ac) ∧ w'.cell? ⟨w.heap.size, 1, none⟩ = some (.map (some mb)) ∧ w'.cell? ⟨w.heap.size + 1, 0, none⟩ = some (.int .i64 k) ∧ w'.cell? ⟨w.heap.size + 1, 1, none⟩ = some (.int .i64 n) ∧ w'.cell? ⟨w.heap.size + 1, 2, none⟩ = some (.string s) ∧ w'.cell? ⟨w.heap.size + 1, 3, none⟩ = some (.slice pa p.length pc) ∧ w'.cell? ⟨w.heap.size + 1, 4, none⟩ = some (.slice a (tlen f) c)) := fun w' h => ⟨h.at (by simp), h.at (by simp), h.at (by simp), h.at (by simp), h.at (by simp), h.at (by simp), h.at (by simp)⟩
  have HT : Hid (termB ns (d + 1) k n s p f = (tokB k n s p (tlen f) && ((!decide (k = 2) || hasB ns s) && kidsB ns d f))) := termB_tok ns d k n s p f
  obtain ⟨R, hR⟩ : ∃ R, R = termB ns (d + 1) k n s p f := ⟨_, rfl⟩
  rw [← hR] at HT ⊢
  obtain ⟨bt, hbt⟩ : ∃ b, tokB k n s p (tlen f) = b := ⟨_, rfl⟩
  have TO : Hid (∀ w', Ex w w' → Calls Tryz.prog 140 #[.agg #[.int .i64 k, .int .i64 n, .string s, .slice pa p.length pc, .slice a (tlen f) c]] w' fun e w'' => e = .returned (.bool bt) ∧ Ex w' w'') := fun w' h => by have := termOk_any k n s p pa pc (tlen f) a c w' (P.out w' h); rw [hbt] at this; exact this
  rw [hbt] at HT
  obtain ⟨D, hD⟩ : ∃ D : Int, D = ((d + 1 : Nat) : Int) := ⟨_, rfl⟩
  rw [← hD]
  have d0 : (D == 0) = false := by rw [beq_eq_false_iff_ne]; omega
  have d3 : D - 1 = (d : Int) := by omega
  have d4 : IntKind.i64.wrap (D - 1) = (d : Int) := by rw [d3]; exact IntWalk.i64_in _ (by omega)
  clear hR hbt hG hC hP hK hs hD P
  go_enter Tryz.func130, Tryz.ntmps130
  go_wp2_with fail
  refine (TO.out _ N.out).mono ?_
  rintro e w1 ⟨rfl, hb1⟩
  have X1 : Hid (Ex ((w.alloc (.cells #[.slice aa al ac, .map (some mb)] 177)).alloc (.cells #[.int .i64 k, .int .i64 n, .string s, .slice pa p.length pc, .slice a (tlen f) c] 121)) w1) := hb1
  obtain ⟨c0, c1, c2, c3, c4, c5, c6⟩ := C.out w1 hb1
  have g0 := G.out w1 (N.out.trans hb1)
  clear hb1 TO
  cases bt with
  | false =>
    have HR : Hid (R = false) := HT.out
    go_wp2_with fail
    go_ret
    exact ⟨by rw [HR.out]; rfl, N.out.trans X1.out⟩
  | true =>
    have FIN : Hid (∀ w', Ex ((w.alloc (.cells #[.slice aa al ac, .map (some mb)] 177)).alloc (.cells #[.int .i64 k, .int .i64 n, .string s, .slice pa p.length pc, .slice a (tlen f) c] 121)) w' → R = kidsB ns d f → Calls Tryz.prog 119 #[.agg #[.slice aa al ac, .map (some mb)], .slice a (tlen f) c, .int .i64 d] w' (ErrP ea R w')) := fun w' h hr => by rw [hr]; exact K.out w' (N.out.trans h)
    clear K
    by_cases k2 : k = 2
    · have q2 : (k == 2) = true := by rw [beq_iff_eq]; exact k2
      have hrun := (CC.out w1 (N.out.trans X1.out)).look SZ.out
      have hcl := cntN_le ns s
      have HB : Hid (hasB ns s = decide (cntN ns s ≠ 0)) := cntN_has _ _
      have HT2 : Hid (R = (hasB ns s && kidsB ns d f)) := HT.out.trans (by rw [decide_eq_true k2]; rfl)
      have K2 : Hid (k = 2) := k2
      obtain ⟨cn, hce⟩ : ∃ cn, cntN ns s = cn := ⟨_, rfl⟩
      rw [hce] at hrun hcl HB
      clear hce k2
      by_cases h0 : cn = 0
      · have e0 : ((cn : Int) == 0) = true := by rw [beq_iff_eq]; omega
        have HR : Hid (R = false) := HT2.out.trans (by rw [HB.out, decide_eq_false (by omega)]; rfl)
        clear h0
        go_wp2_with fail
        go_ret
        exact ⟨by rw [HR.out]; rfl, N.out.trans X1.out⟩
      · have e0 : ((cn : Int) == 0) = false := by rw [beq_eq_false_iff_ne]; omega
        have HR : Hid (R = kidsB ns d f) := HT2.out.trans (by rw [HB.out, decide_eq_true h0]; rfl)
        clear h0
        go_wp2_with fail
        refine (FIN.out _ X1.out HR.out).mono ?_
        rintro e w2 ⟨rfl, hb2⟩
        go_wp2_with fail
        go_ret
        exact ⟨rfl, N.out.trans (X1.out.trans hb2)⟩
    · have q2 : (k == 2) = false := by rw [beq_eq_false_iff_ne]; exact k2
      have HR : Hid (R = kidsB ns d f) := HT.out.trans (by rw [decide_eq_false k2]; rfl)
      go_wp2_with fail
      refine (FIN.out _ X1.out HR.out).mono ?_
      rintro e w2 ⟨rfl, hb2⟩
      go_wp2_with fail
      go_ret
      exact ⟨rfl, N.out.trans (X1.out.trans hb2)⟩

set_option maxRecDepth 100000 in
set_option maxHeartbeats 2000000 in
theorem term_zero (ea : Addr) (aa : Option Addr) (al ac mb : Nat) (k n : Int) (s : ByteArray) (p : List Int) (pa : Option Addr) (pc : Nat) (f : TM) (a : Option Addr) (c : Nat) (w : World) (hG : w.cell? ⟨0, 0, none⟩ = some (EV ea)) :
    Calls Tryz.prog 130 #[.agg #[.slice aa al ac, .map (some mb)], .agg #[.int .i64 k, .int .i64 n, .string s, .slice pa p.length pc, .slice a (tlen f) c], .int .i64 (0 : Nat)] w (ErrP ea false w) := by
  have g0 : ((w.alloc (.cells #[.slice aa al ac, .map (some mb)] 177)).alloc (.cells #[.int .i64 k, .int .i64 n, .string s, .slice pa p.length pc, .slice a (tlen f) c] 121)).cell? ⟨0, 0, none⟩ = some (EV ea) := ((Ex.new _ _).alloc _).at hG
  go_enter Tryz.func130, Tryz.ntmps130
  go_wp2_with fail
  go_ret
  exact ⟨rfl, (Ex.new _ _).alloc _⟩

set_option maxRecDepth 100000 in
set_option maxHeartbeats 2000000 in
theorem terms_by (ea : Addr) (aa : Option Addr) (al ac mb : Nat) (ns : List ByteArray) (f : TM) (a : Option Addr) (c d : Nat) (w : World) (hM : MA w 0 f a) (hl : tlen f ≤ 1000000000)
    (hK : ∀ j, j < tlen f → ∀ (pa : Option Addr) (pc : Nat) (a' : Option Addr) (c' : Nat) (w' : World), Ex w w' → PA w' 0 (tpath f j) pa → MA w' 0 (tkid f j) a' → Calls Tryz.prog 130 #[.agg #[.slice aa al ac, .map (some mb)], .agg #[.int .i64 (tkind f j), .int .i64 (tnum f j), .string (tname f j), .slice pa (tpath f j).length pc, .slice a' (tlen (tkid f j)) c'], .int .i64 d] w' (ErrP ea (kidB ns d f j) w')) :
    Calls Tryz.prog 119 #[.agg #[.slice aa al ac, .map (some mb)], .slice a (tlen f) c, .int .i64 d] w (ErrP ea (kidsB ns d f) w) := by
  have M : Hid (∀ w', Ex w w' → MA w' 0 f a) := fun _ h => MA_below hM h
  have I : Hid _ := hK
  have N : Hid (Ex w (w.alloc (.cells #[.slice aa al ac, .map (some mb)] 177))) := Ex.new _ _
  have C : Hid (∀ w', Ex (w.alloc (.cells #[.slice aa al ac, .map (some mb)] 177)) w' → w'.cell? ⟨w.heap.size, 0, none⟩ = some (.slice aa al ac) ∧ w'.cell? ⟨w.heap.size, 1, none⟩ = some (.map (some mb))) := fun w' h => ⟨h.at (by simp), h.at (by simp)⟩
  clear hM hK
  obtain ⟨R, hR⟩ : ∃ R, R = kidsB ns d f := ⟨_, rfl⟩
  have RR : Hid (R = kidsB ns d f) := hR
  rw [← hR]
  clear hR
  go_enter Tryz.func119, Tryz.ntmps119
  go_wp2_with fail
  go_loopw [8, 9, 12] (fun _ _ i wr => ∃ (j : Nat), j ≤ tlen f ∧ i = .int .i64 j ∧ (∀ l, l < j → kidB ns d f l = true) ∧ Ex (w.alloc (.cells #[.slice aa al ac, .map (some mb)] 177)) wr) (fun _ _ i _ => tlen f - (intOf i).toNat)
  case atStart => exact ⟨0, by omega, rfl, fun j hj => by omega, Ex.refl _⟩
  case round =>
    obtain ⟨j, hj, rfl, hall, hx⟩ := hrel
    have A : Hid (∀ l, l < j → kidB ns d f l = true) := hall
    have E : Hid (Ex (w.alloc (.cells #[.slice aa al ac, .map (some mb)] 177)) wr) := hx
    obtain ⟨c0, c1⟩ := C.out wr hx
    clear hall hx
    by_cases hlt : j < tlen f
    · obtain ⟨b, o, rfl, _, hbs, hk⟩ := MA_at (M.out wr (N.out.trans E.out)) (by omega)
      obtain ⟨e0, e1, e2, ⟨pa, pc, e3, hp'⟩, a', c', e4, hm'⟩ := hk j hlt
      have HI : Hid (∀ w', Ex wr w' → Calls Tryz.prog 130 #[.agg #[.slice aa al ac, .map (some mb)], .agg #[.int .i64 (tkind f j), .int .i64 (tnum f j), .string (tname f j), .slice pa (tpath f j).length pc, .slice a' (tlen (tkid f j)) c'], .int .i64 d] w' (ErrP ea (kidB ns d f j) w')) := fun w' h => I.out j hlt pa pc a' c' w' (N.out.trans (E.out.trans h)) (PA_below (PS_pa.1 hp'.1) h) (MA_below hm' h)
      have U : Hid (kidB ns d f j = true → ∀ l, l < j + 1 → kidB ns d f l = true) := fun h => upto_succ A.out h
      have V : Hid (kidB ns d f j = false → R = false) := fun h => RR.out.trans (kidsB_no hlt h)
      clear hk hp' hm'
      have zr : w.heap.size < wr.heap.size := by have := E.out.size; rw [World.size_alloc] at this; omega
      go_wp2_with fail
      refine Calls.mono (HI.out _ (Ex.new _ _)) ?_
      rintro e w1 ⟨rfl, hb1⟩
      have E1 : Hid (Ex (w.alloc (.cells #[.slice aa al ac, .map (some mb)] 177)) w1) := E.out.trans ((Ex.new _ _).trans hb1)
      clear hb1 HI
      cases hkb : kidB ns d f j with
      | false =>
        have HR : Hid (R = false) := V.out hkb
        clear hkb
        simp only [errV, Bool.false_eq_true, if_false]
        go_wp2_with fail
        go_ret
        exact ⟨by rw [HR.out]; rfl, N.out.trans E1.out⟩
      | true =>
        have HU : Hid _ := U.out hkb
        clear hkb
        simp only [errV, if_true]
        go_wp2_with fail
        go_roundw
        case rel => exact ⟨j + 1, by omega, by go_num, HU.out, E1.out⟩
        case measure => simp [intOf]; omega
    · have HR : Hid (R = true) := RR.out.trans (kidsB_yes fun l hl => A.out l (by omega))
      go_wp2_with fail
      go_ret
      exact ⟨by rw [HR.out]; rfl, N.out.trans E.out⟩

theorem terms_any (ea : Addr) (aa : Option Addr) (al ac mb m : Nat) (ns : List ByteArray) : ∀ (d : Nat) (f : TM) (a : Option Addr) (c : Nat) (w : World), d ≤ 1000 → w.cell? ⟨0, 0, none⟩ = some (EV ea) → CM w mb m ns → MA w 0 f a → tlen f ≤ 1000000000 → TSm f → TLm f →
    Calls Tryz.prog 119 #[.agg #[.slice aa al ac, .map (some mb)], .slice a (tlen f) c, .int .i64 d] w (ErrP ea (kidsB ns d f) w) := by
  intro d
  induction d with
  | zero =>
    intro f a c w _ hG _ hM hl _ _
    exact terms_by ea aa al ac mb ns f a c 0 w hM hl fun j hj pa pc a' c' w' hx _ _ => term_zero ea aa al ac mb _ _ _ _ pa pc _ a' c' w' (hx.at hG)
  | succ d ih =>
    intro f a c w hd hG hC hM hl hsm hlm
    refine terms_by ea aa al ac mb ns f a c (d + 1) w hM hl fun j hj pa pc a' c' w' hx hp hm => ?_
    obtain ⟨g1, g2, g3⟩ := TSm_kid hsm j hj
    obtain ⟨h1, h2, h3, h4⟩ := TLm_at hlm j hj
    exact term_by ea aa al ac mb m ns _ _ _ _ pa pc _ a' c' d (by omega) w' (hx.at hG) (hC.ex hx) h1 hp fun w2 hx2 => ih _ a' c' w2 (by omega) ((hx.trans hx2).at hG) (hC.ex (hx.trans hx2)) (MA_below hm hx2) g2 g3 h4

end Go.Proofs.YtldbmlojgakieaaGreatDoor

namespace Go.Proofs.YtldbmlojgakieaaGreatDoor

open Go.RowKit Go.Deep

attribute [local go_sem ↓] Go.wp_at_zero Go.wp_at_succ

theorem XA_take {w : World} {lo : Nat} {p : List ByteArray} {a : Option Addr} (h : XA w lo p a) (j : Nat) (hj : j ≤ p.length) : XA w lo (p.take j) a ∧ (p.take j).length = j := by
  have hl : (p.take j).length = j := by rw [List.length_take]; omega
  refine ⟨?_, hl⟩
  rcases h with h | ⟨b, o, e, hb, hc⟩
  · exact Or.inl (by omega)
  · refine Or.inr ⟨b, o, e, hb, fun i hi => ?_⟩
    rw [hc i (by omega)]
    simp only [List.getD]
    rw [List.getElem?_take_of_lt (by omega)]

theorem bindB_len {fs : List PM} {rec : List ByteArray → BD → TM → Bool} {ns : List ByteArray} {k : Int} {nm : List ByteArray} {fn : ByteArray} {ts : TM} {tb : BD} {tz : TM} {eb : BD} {ez : TM} (h : 60 < nm.length) : bindB fs rec ns k nm fn ts tb tz eb ez = false := by
  simp [bindB, show ¬ nm.length ≤ 60 by omega]
theorem bindB_terms {fs : List PM} {rec : List ByteArray → BD → TM → Bool} {ns : List ByteArray} {k : Int} {nm : List ByteArray} {fn : ByteArray} {ts : TM} {tb : BD} {tz : TM} {eb : BD} {ez : TM} (h : termsB ns ts = false) : bindB fs rec ns k nm fn ts tb tz eb ez = false := by
  simp [bindB, h]
theorem bindB_uniq {fs : List PM} {rec : List ByteArray → BD → TM → Bool} {ns : List ByteArray} {k : Int} {nm : List ByteArray} {fn : ByteArray} {ts : TM} {tb : BD} {tz : TM} {eb : BD} {ez : TM} (h : uniqB nm = false) : bindB fs rec ns k nm fn ts tb tz eb ez = false := by
  simp [bindB, h]
theorem bindB_kind {fs : List PM} {rec : List ByteArray → BD → TM → Bool} {ns : List ByteArray} {k : Int} {nm : List ByteArray} {fn : ByteArray} {ts : TM} {tb : BD} {tz : TM} {eb : BD} {ez : TM} (h1 : nm.length ≤ 60) (h2 : termsB ns ts = true) (h3 : uniqB nm = true) : bindB fs rec ns k nm fn ts tb tz eb ez = kindB fs rec ns k nm fn ts tb tz eb ez := by
  simp only [bindB, h1, h2, h3, decide_true, Bool.true_and]

theorem kindB_1 {fs : List PM} {rec : List ByteArray → BD → TM → Bool} {ns : List ByteArray} {nm : List ByteArray} {fn : ByteArray} {ts : TM} {tb : BD} {tz : TM} {eb : BD} {ez : TM} : kindB fs rec ns 1 nm fn ts tb tz eb ez = (decide (blen tb + tlen tz + blen eb + tlen ez = 0) && (decide (fn.size = 0) && (decide (nm.length = 1) && decide (tlen ts = 1)))) := rfl
theorem kindB_2 {fs : List PM} {rec : List ByteArray → BD → TM → Bool} {ns : List ByteArray} {nm : List ByteArray} {fn : ByteArray} {ts : TM} {tb : BD} {tz : TM} {eb : BD} {ez : TM} : kindB fs rec ns 2 nm fn ts tb tz eb ez = (decide (blen tb + tlen tz + blen eb + tlen ez = 0) && ((arityR fs fn).2.2 && (decide ((arityR fs fn).1 = tlen ts) && decide ((arityR fs fn).2.1 = nm.length)))) := rfl
theorem kindB_3 {fs : List PM} {rec : List ByteArray → BD → TM → Bool} {ns : List ByteArray} {nm : List ByteArray} {fn : ByteArray} {ts : TM} {tb : BD} {tz : TM} {eb : BD} {ez : TM} : kindB fs rec ns 3 nm fn ts tb tz eb ez = (decide (fn.size = 0) && (decide (tlen ts = 1) && (rec ns tb tz && (rec ns eb ez && (decide (tlen tz = nm.length) && decide (tlen ez = nm.length)))))) := rfl
theorem kindB_o {fs : List PM} {rec : List ByteArray → BD → TM → Bool} {ns : List ByteArray} {nm : List ByteArray} {fn : ByteArray} {ts : TM} {tb : BD} {tz : TM} {eb : BD} {ez : TM} {k : Int} (h1 : ¬ k = 1) (h2 : ¬ k = 2) (h3 : ¬ k = 3) : kindB fs rec ns k nm fn ts tb tz eb ez = false := by
  unfold kindB; rw [if_neg h1, if_neg h2, if_neg h3]

set_option maxRecDepth 100000 in
set_option maxHeartbeats 4000000 in
theorem l12Bind_any (l : List PM) (la : Option Addr) (lc at_ : Nat) (hat : at_ ≤ l.length) (hl : l.length ≤ 1000000000) (ns : List ByteArray) (na : Option Addr) (nc : Nat) (hns : ns.length ≤ 1000000000) (rec : List ByteArray → BD → TM → Bool)
    (k : Int) (nm : List ByteArray) (nma : Option Addr) (nmc : Nat) (fn : ByteArray) (ts : TM) (tsa : Option Addr) (tsc : Nat) (tb : BD) (tba : Option Addr) (tbc : Nat) (tz : TM) (tza : Option Addr) (tzc : Nat) (eb : BD) (eba : Option Addr) (ebc : Nat) (ez : TM) (eza : Option Addr) (ezc : Nat) (d : Nat) (hd : d ≤ 1000) (w : World)
    (z1 : blen tb ≤ 1000000000) (z2 : tlen tz ≤ 1000000000) (z3 : blen eb ≤ 1000000000) (z4 : tlen ez ≤ 1000000000) (hnc : nm.length ≤ nmc)
    (hQ : QA w 0 l la) (hX : XA w 0 ns na) (hN : XA w 0 nm nma) (hT : MA w 0 ts tsa)
    (hB1 : ∀ w', Ex w w' → Calls Tryz.prog 47 #[.slice la l.length lc, .int .i64 at_, .slice na ns.length nc, .agg #[.slice tba (blen tb) tbc, .slice tza (tlen tz) tzc], .int .i64 d] w' fun e w'' => e = .returned (.bool (rec ns tb tz)) ∧ Ex w' w'')
    (hB2 : ∀ w', Ex w w' → Calls Tryz.prog 47 #[.slice la l.length lc, .int .i64 at_, .slice na ns.length nc, .agg #[.slice eba (blen eb) ebc, .slice eza (tlen ez) ezc], .int .i64 d] w' fun e w'' => e = .returned (.bool (rec ns eb ez)) ∧ Ex w' w'') :
    Calls Tryz.prog 70 #[.slice la l.length lc, .int .i64 at_, .slice na ns.length nc, .agg #[.int .i64 k, .slice nma nm.length nmc, .string fn, .slice tsa (tlen ts) tsc, .slice tba (blen tb) tbc, .slice tza (tlen tz) tzc, .slice eba (blen eb) ebc, .slice eza (tlen ez) ezc], .int .i64 (d + 1 : Nat)] w fun e w' => e = .returned (.bool (bindB (l.take at_) rec ns k nm fn ts tb tz eb ez)) ∧ Ex w w' := by
  have Q : Hid (∀ w', Ex w w' → QA w' 0 l la) := fun _ h => QA_below hQ h
  have X : Hid (∀ w', Ex w w' → XA w' 0 ns na) := fun _ h => XA_below hX h
  have NN : Hid (∀ w', Ex w w' → XA w' 0 nm nma) := fun _ h => XA_below hN h
  have T : Hid (∀ w', Ex w w' → MA w' 0 ts tsa) := fun _ h => MA_below hT h
  have B1 : Hid _ := hB1
  have B2 : Hid _ := hB2
  have N : Hid (Ex w (w.alloc (.cells #[.int .i64 k, .slice nma nm.length nmc, .string fn, .slice tsa (tlen ts) tsc, .slice tba (blen tb) tbc, .slice tza (tlen tz) tzc, .slice eba (blen eb) ebc, .slice eza (tlen ez) ezc] 103))) := Ex.new _ _
  have C : Hid (∀ w', Ex (w.alloc (.cells #[.int .i64 k, .slice nma nm.length nmc, .string fn, .slice tsa (tlen ts) tsc, .slice tba (blen tb) tbc, .slice tza (tlen tz) tzc, .slice eba (blen eb) ebc, .slice eza (tlen ez) ezc] 103)) w' → w'.cell? ⟨w.heap.size, 0, none⟩ = some (.int .i64 k) ∧ w'.cell? ⟨w.heap.size, 1, none⟩ = some (.slice nma nm.length nmc) ∧ w'.cell? ⟨w.heap.size, 2, none⟩ = some (.string fn) ∧ w'.cell? ⟨w.heap.size, 3, none⟩ = some (.slice tsa (tlen ts) tsc) ∧ w'.cell? ⟨w.heap.size, 4, none⟩ = some (.slice tba (blen tb) tbc) ∧ w'.cell? ⟨w.heap.size, 5, none⟩ = some (.slice tza (tlen tz) tzc) ∧ w'.cell? ⟨w.heap.size, 6, none⟩ = some (.slice eba (blen eb) ebc) ∧ w'.cell? ⟨w.heap.size, 7, none⟩ = some (.slice eza (tlen ez) ezc)) := fun w' h => ⟨h.at (by simp), h.at (by simp), h.at (by simp), h.at (by simp), h.at (by simp), h.at (by simp), h.at (by simp), h.at (by simp)⟩
  obtain ⟨R, hR⟩ : ∃ R, R = bindB (l.take at_) rec ns k nm fn ts tb tz eb ez := ⟨_, rfl⟩
  have RR : Hid (R = bindB (l.take at_) rec ns k nm fn ts tb tz eb ez) := hR
  rw [← hR]
  obtain ⟨D, hD⟩ : ∃ D : Int, D = ((d + 1 : Nat) : Int) := ⟨_, rfl⟩
  have HD : Hid (D = ((d + 1 : Nat) : Int)) := hD
  rw [← hD]
  have d3 : D - 1 = (d : Int) := by omega
  have d4 : IntKind.i64.wrap (D - 1) = (d : Int) := by rw [d3]; exact IntWalk.i64_in _ (by omega)
  clear hQ hX hN hT hB1 hB2 hR hD
  by_cases h60 : 60 < nm.length
  · have HR : Hid (R = false) := RR.out.trans (bindB_len h60)
    have e1 : decide ((60 : Int) < (nm.length : Int)) = true := decide_eq_true (by omega)
    go_enter Tryz.func70, Tryz.ntmps70
    go_wp2_with fail
    go_ret
    exact ⟨ret_b HR.out.symm, N.out⟩
  have e1 : decide ((60 : Int) < (nm.length : Int)) = false := decide_eq_false (by omega)
  go_enter Tryz.func70, Tryz.ntmps70
  go_wp2_with fail
  refine (l12Terms_any ns na nc hns ts tsa tsc _ (X.out _ N.out) (T.out _ N.out)).mono ?_
  rintro e w1 ⟨rfl, hb1⟩
  cases ht : termsB ns ts with
  | false =>
    have HR : Hid (R = false) := RR.out.trans (bindB_terms ht)
    go_wp2_with fail
    go_ret
    exact ⟨ret_b HR.out.symm, N.out.trans hb1⟩
  | true =>
    have HT : Hid (termsB ns ts = true) := ht
    have c1 := (C.out w1 hb1).2.1
    clear ht
    go_wp2_with fail
    go_loopw [11] (fun i wr => ∃ (j : Nat), j ≤ nm.length ∧ i = .int .i64 j ∧ (∀ l, l < j → uniqAt nm l = true) ∧ Ex (w.alloc (.cells #[.int .i64 k, .slice nma nm.length nmc, .string fn, .slice tsa (tlen ts) tsc, .slice tba (blen tb) tbc, .slice tza (tlen tz) tzc, .slice eba (blen eb) ebc, .slice eza (tlen ez) ezc] 103)) wr) (fun i _ => nm.length - (intOf i).toNat)
    case atStart => exact ⟨0, by omega, rfl, fun j hj => by omega, hb1⟩
    case round =>
      obtain ⟨j, hj, rfl, hall, hx⟩ := hrel
      have A : Hid (∀ l, l < j → uniqAt nm l = true) := hall
      have E : Hid (Ex (w.alloc (.cells #[.int .i64 k, .slice nma nm.length nmc, .string fn, .slice tsa (tlen ts) tsc, .slice tba (blen tb) tbc, .slice tza (tlen tz) tzc, .slice eba (blen eb) ebc, .slice eza (tlen ez) ezc] 103)) wr) := hx
      clear hall hb1 c1
      by_cases hlt : j < nm.length
      · have c1 := (C.out wr hx).2.1
        clear hx
        obtain ⟨b, o, rfl, hbs, _, hc⟩ := XA_at (NN.out wr (N.out.trans E.out)) (by omega)
        have ck := hc j hlt
        have K : Hid (∀ w', Ex wr w' → w'.cell? ⟨b, o + j, none⟩ = some (.string (nm.getD j ⟨#[]⟩))) := fun w' h => h.at ck
        have U : Hid (uniqAt nm j = true → ∀ l, l < j + 1 → uniqAt nm l = true) := fun h => upto_succ A.out h
        have V : Hid (uniqAt nm j = false → R = false) := fun h => RR.out.trans (bindB_uniq (uniqB_no hlt h))
        have UA : Hid (uniqAt nm j = (wordB (nm.getD j ⟨#[]⟩) && !hasB (nm.take j) (nm.getD j ⟨#[]⟩))) := rfl
        have XT := fun w' (h : Ex w w') => XA_take (NN.out w' h) j hj
        have LH : Hid (∀ w', Ex wr w' → ∀ c, Calls Tryz.prog 48 #[.slice (some ⟨b, o, none⟩) j c, .string (nm.getD j ⟨#[]⟩)] w' fun e w'' => e = .returned (.bool (hasB (nm.take j) (nm.getD j ⟨#[]⟩))) ∧ Ex w' w'') := fun w' h c => by
          have h3 := XT w' (N.out.trans (E.out.trans h))
          have := l12Has_any (nm.take j) (some ⟨b, o, none⟩) c (nm.getD j ⟨#[]⟩) w' (by omega) h3.1
          rw [h3.2] at this; exact this
        have hjc : j ≤ nmc := by omega
        clear XT hc
        obtain ⟨t, hte⟩ : ∃ t, nm.getD j ⟨#[]⟩ = t := ⟨_, rfl⟩
        obtain ⟨hh, hhe⟩ : ∃ hh, hasB (nm.take j) t = hh := ⟨_, rfl⟩
        rw [hte] at ck K UA LH
        rw [hhe] at UA LH
        clear hte hhe
        have KS : Hid (∀ w', Ex wr w' → (Ex wr w' ∧ w'.cell? ⟨w.heap.size, 1, none⟩ = some (.slice (some ⟨b, o, none⟩) nm.length nmc) ∧ w'.cell? ⟨b, o + j, none⟩ = some (.string t))) := fun w' h => ⟨h, (C.out w' (E.out.trans h)).2.1, K.out w' h⟩
        go_wp2_with fail
        clear c1 ck
        refine wp_region_held_drew (S := fun w' => Ex wr w' ∧ w'.cell? ⟨w.heap.size, 1, none⟩ = some (.slice (some ⟨b, o, none⟩) nm.length nmc) ∧ w'.cell? ⟨b, o + j, none⟩ = some (.string t)) (by kernel_rfl) (KS.out _ (Ex.refl _).drew) (fun hHeld => ?_)
        refine wpAnyH_take (i := 0) (v := ?_) rfl (by kernel_rfl) (by kernel_rfl) (by kernel_rfl) (fun _ _ _ h => h) (Or.inl ⟨by rfl, ?_⟩) (by assumption) ?_
        rotate_left
        · (intro w' hSw; (try dsimp only at hSw); go_simp) <;> with_reducible rfl
        change wpAnyH Tryz.prog _ _ _ _ _ _ (Act.put _ (some 34) _) _
        (try simp only [Act.put, List.setIfInBounds_toArray, List.set_cons_zero, List.set_cons_succ])
        refine wpAnyH_take (i := 1) (v := ?_) rfl (by kernel_rfl) (by kernel_rfl) (by kernel_rfl) (fun _ _ _ h => h) (Or.inl ⟨by rfl, ?_⟩) (by assumption) ?_
        rotate_left
        · (intro w' hSw; (try dsimp only at hSw); go_simp) <;> with_reducible rfl
        change wpAnyH Tryz.prog _ _ _ _ _ _ (Act.put _ (some 35) _) _
        (try simp only [Act.put, List.setIfInBounds_toArray, List.set_cons_zero, List.set_cons_succ])
        refine wpAnyH_take (i := 2) (v := ?_) rfl (by kernel_rfl) (by kernel_rfl) (by kernel_rfl) (fun _ _ _ h => h) (Or.inl ⟨by rfl, ?_⟩) (by assumption) ?_
        rotate_left
        · (intro w' hSw; (try dsimp only at hSw); go_simp) <;> with_reducible rfl
        change wpAnyH Tryz.prog _ _ _ _ _ _ (Act.put _ (some 36) _) _
        (try simp only [Act.put, List.setIfInBounds_toArray, List.set_cons_zero, List.set_cons_succ])
        refine wpAnyH_take (i := 3) (v := ?_) rfl (by kernel_rfl) (by kernel_rfl) (by kernel_rfl) (fun _ _ _ h => h) (Or.inl ⟨by rfl, ?_⟩) (by assumption) ?_
        rotate_left
        · (intro w' hSw; (try dsimp only at hSw); go_simp) <;> with_reducible rfl
        change wpAnyH Tryz.prog _ _ _ _ _ _ (Act.put _ (some 37) _) _
        (try simp only [Act.put, List.setIfInBounds_toArray, List.set_cons_zero, List.set_cons_succ])
        refine wpAnyH_take (i := 4) (v := ?_) rfl (by kernel_rfl) (by kernel_rfl) (by kernel_rfl) (fun _ _ _ h => h) (Or.inl ⟨by rfl, ?_⟩) (by assumption) ?_
        rotate_left
        · (intro w' hSw; (try dsimp only at hSw); go_simp) <;> with_reducible rfl
        change wpAnyH Tryz.prog _ _ _ _ _ _ (Act.put _ (some 38) _) _
        (try simp only [Act.put, List.setIfInBounds_toArray, List.set_cons_zero, List.set_cons_succ])
        refine wpAnyH_ready (rs := [5]) (by kernel_rfl) (by simp) ?_
        refine AllReadyH.cons (i := 5) rfl (fun K hK => ?_) AllReadyH.nil
        go_simp
        refine (l12Word_any t _).mono ?_
        rintro e w2 ⟨rfl, hb2⟩
        have hx2 := Ex.trans (And.left hHeld) hb2
        cases hw : wordB t with
        | false =>
          have HR : Hid (R = false) := V.out (by rw [UA.out, hw]; rfl)
          go_wp2_with fail
          refine hK.out _ _ ?_ (fun hHeld1 => ?_)
          · exact KS.out _ hx2
          clear hK hHeld
          (try simp only [Act.put, List.setIfInBounds_toArray, List.set_cons_zero, List.set_cons_succ])
          refine wpAnyH_take (i := 6) (v := ?_) rfl (by kernel_rfl) (by kernel_rfl) (by kernel_rfl) (fun _ _ _ h => h) (Or.inl ⟨by rfl, ?_⟩) (by assumption) ?_
          rotate_left
          · (intro w' hSw; (try dsimp only at hSw); go_simp) <;> with_reducible rfl
          change wpAnyH Tryz.prog _ _ _ _ _ _ (Act.put _ (some 40) _) _
          (try simp only [Act.put, List.setIfInBounds_toArray, List.set_cons_zero, List.set_cons_succ])
          refine wpAnyH_take (i := 7) (v := ?_) rfl (by kernel_rfl) (by kernel_rfl) (by kernel_rfl) (fun _ _ _ h => h) (Or.inl ⟨by rfl, ?_⟩) (by assumption) ?_
          rotate_left
          · (intro w' hSw; (try dsimp only at hSw); go_simp) <;> with_reducible rfl
          change wpAnyH Tryz.prog _ _ _ _ _ _ (Act.put _ (some 41) _) _
          (try simp only [Act.put, List.setIfInBounds_toArray, List.set_cons_zero, List.set_cons_succ])
          refine wpAnyH_take (i := 8) (v := undef) rfl (by kernel_rfl) (by kernel_rfl) (by kernel_rfl) (fun _ _ _ h => h) (Or.inr ⟨by kernel_rfl, rfl⟩) (by assumption) ?_
          change wpAnyH Tryz.prog _ _ _ _ _ _ (Act.put _ (some 42) _) _
          (try simp only [Act.put, List.setIfInBounds_toArray, List.set_cons_zero, List.set_cons_succ])
          refine wpAnyH_take (i := 9) (v := undef) rfl (by kernel_rfl) (by kernel_rfl) (by kernel_rfl) (fun _ _ _ h => h) (Or.inr ⟨by kernel_rfl, rfl⟩) (by assumption) ?_
          change wpAnyH Tryz.prog _ _ _ _ _ _ (Act.put _ (some 43) _) _
          (try simp only [Act.put, List.setIfInBounds_toArray, List.set_cons_zero, List.set_cons_succ])
          refine wpAnyH_take (i := 10) (v := undef) rfl (by kernel_rfl) (by kernel_rfl) (by kernel_rfl) (fun _ _ _ h => h) (Or.inr ⟨by kernel_rfl, rfl⟩) (by assumption) ?_
          change wpAnyH Tryz.prog _ _ _ _ _ _ (Act.put _ (some 44) _) _
          (try simp only [Act.put, List.setIfInBounds_toArray, List.set_cons_zero, List.set_cons_succ])
          refine wpAnyH_take (i := 11) (v := undef) rfl (by kernel_rfl) (by kernel_rfl) (by kernel_rfl) (fun _ _ _ h => h) (Or.inr ⟨by kernel_rfl, rfl⟩) (by assumption) ?_
          change wpAnyH Tryz.prog _ _ _ _ _ _ (Act.put _ (some 45) _) _
          (try simp only [Act.put, List.setIfInBounds_toArray, List.set_cons_zero, List.set_cons_succ])
          refine wpAnyH_take (i := 12) (v := undef) rfl (by kernel_rfl) (by kernel_rfl) (by kernel_rfl) (fun _ _ _ h => h) (Or.inr ⟨by kernel_rfl, rfl⟩) (by assumption) ?_
          change wpAnyH Tryz.prog _ _ _ _ _ _ (Act.put _ (some 46) _) _
          (try simp only [Act.put, List.setIfInBounds_toArray, List.set_cons_zero, List.set_cons_succ])
          refine wpAnyH_take (i := 13) (v := undef) rfl (by kernel_rfl) (by kernel_rfl) (by kernel_rfl) (fun _ _ _ h => h) (Or.inr ⟨by kernel_rfl, rfl⟩) (by assumption) ?_
          change wpAnyH Tryz.prog _ _ _ _ _ _ (Act.put _ (some 47) _) _
          (try simp only [Act.put, List.setIfInBounds_toArray, List.set_cons_zero, List.set_cons_succ])
          refine wpAnyH_take (i := 14) (v := undef) rfl (by kernel_rfl) (by kernel_rfl) (by kernel_rfl) (fun _ _ _ h => h) (Or.inr ⟨by kernel_rfl, rfl⟩) (by assumption) ?_
          change wpAnyH Tryz.prog _ _ _ _ _ _ (Act.put _ (some 48) _) _
          (try simp only [Act.put, List.setIfInBounds_toArray, List.set_cons_zero, List.set_cons_succ])
          refine wpAnyH_take (i := 15) (v := undef) rfl (by kernel_rfl) (by kernel_rfl) (by kernel_rfl) (fun _ _ _ h => h) (Or.inr ⟨by kernel_rfl, rfl⟩) (by assumption) ?_
          change wpAnyH Tryz.prog _ _ _ _ _ _ (Act.put _ (some 49) _) _
          (try simp only [Act.put, List.setIfInBounds_toArray, List.set_cons_zero, List.set_cons_succ])
          refine wpAnyH_take (i := 16) (v := undef) rfl (by kernel_rfl) (by kernel_rfl) (by kernel_rfl) (fun _ _ _ h => h) (Or.inr ⟨by kernel_rfl, rfl⟩) (by assumption) ?_
          change wpAnyH Tryz.prog _ _ _ _ _ _ (Act.put _ (some 50) _) _
          (try simp only [Act.put, List.setIfInBounds_toArray, List.set_cons_zero, List.set_cons_succ])
          refine wpAnyH_take (i := 17) (v := undef) rfl (by kernel_rfl) (by kernel_rfl) (by kernel_rfl) (fun _ _ _ h => h) (Or.inr ⟨by kernel_rfl, rfl⟩) (by assumption) ?_
          change wpAnyH Tryz.prog _ _ _ _ _ _ (Act.put _ (some 51) _) _
          (try simp only [Act.put, List.setIfInBounds_toArray, List.set_cons_zero, List.set_cons_succ])
          refine wpAnyH_take (i := 18) (v := ?_) rfl (by kernel_rfl) (by kernel_rfl) (by kernel_rfl) (fun _ _ _ h => h) (Or.inl ⟨by rfl, ?_⟩) (by assumption) ?_
          rotate_left
          · (intro w' hSw; (try dsimp only at hSw); go_simp) <;> with_reducible rfl
          change wpAnyH Tryz.prog _ _ _ _ _ _ (Act.put _ (some 52) _) _
          (try simp only [Act.put, List.setIfInBounds_toArray, List.set_cons_zero, List.set_cons_succ])
          refine wpAnyH_done (by kernel_rfl) ?_ _
          go_wp2_with fail
          go_ret
          exact ⟨ret_b HR.out.symm, N.out.trans (E.out.trans hx2)⟩
        | true =>
          have HW : Hid (wordB t = true) := hw
          clear hw
          go_wp2_with fail
          refine hK.out _ _ ?_ (fun hHeld1 => ?_)
          · exact KS.out _ hx2
          clear hK hHeld
          (try simp only [Act.put, List.setIfInBounds_toArray, List.set_cons_zero, List.set_cons_succ])
          refine wpAnyH_take (i := 6) (v := ?_) rfl (by kernel_rfl) (by kernel_rfl) (by kernel_rfl) (fun _ _ _ h => h) (Or.inl ⟨by rfl, ?_⟩) (by assumption) ?_
          rotate_left
          · (intro w' hSw; (try dsimp only at hSw); go_simp) <;> with_reducible rfl
          change wpAnyH Tryz.prog _ _ _ _ _ _ (Act.put _ (some 40) _) _
          (try simp only [Act.put, List.setIfInBounds_toArray, List.set_cons_zero, List.set_cons_succ])
          refine wpAnyH_take (i := 7) (v := ?_) rfl (by kernel_rfl) (by kernel_rfl) (by kernel_rfl) (fun _ _ _ h => h) (Or.inl ⟨by rfl, ?_⟩) (by assumption) ?_
          rotate_left
          · (intro w' hSw; (try dsimp only at hSw); go_simp) <;> with_reducible rfl
          change wpAnyH Tryz.prog _ _ _ _ _ _ (Act.put _ (some 41) _) _
          (try simp only [Act.put, List.setIfInBounds_toArray, List.set_cons_zero, List.set_cons_succ])
          refine wpAnyH_take (i := 8) (v := ?_) rfl (by kernel_rfl) (by kernel_rfl) (by kernel_rfl) (fun _ _ _ h => h) (Or.inl ⟨by rfl, ?_⟩) (by assumption) ?_
          rotate_left
          · (intro w' hSw; (try dsimp only at hSw); go_simp) <;> with_reducible rfl
          change wpAnyH Tryz.prog _ _ _ _ _ _ (Act.put _ (some 42) _) _
          (try simp only [Act.put, List.setIfInBounds_toArray, List.set_cons_zero, List.set_cons_succ])
          refine wpAnyH_take (i := 9) (v := ?_) rfl (by kernel_rfl) (by kernel_rfl) (by kernel_rfl) (fun _ _ _ h => h) (Or.inl ⟨by rfl, ?_⟩) (by assumption) ?_
          rotate_left
          · (intro w' hSw; (try dsimp only at hSw); go_simp) <;> with_reducible rfl
          change wpAnyH Tryz.prog _ _ _ _ _ _ (Act.put _ (some 43) _) _
          (try simp only [Act.put, List.setIfInBounds_toArray, List.set_cons_zero, List.set_cons_succ])
          refine wpAnyH_take (i := 10) (v := ?_) rfl (by kernel_rfl) (by kernel_rfl) (by kernel_rfl) (fun _ _ _ h => h) (Or.inl ⟨by rfl, ?_⟩) (by assumption) ?_
          rotate_left
          · (intro w' hSw; (try dsimp only at hSw); go_simp) <;> with_reducible rfl
          change wpAnyH Tryz.prog _ _ _ _ _ _ (Act.put _ (some 44) _) _
          (try simp only [Act.put, List.setIfInBounds_toArray, List.set_cons_zero, List.set_cons_succ])
          refine wpAnyH_take (i := 11) (v := ?_) rfl (by kernel_rfl) (by kernel_rfl) (by kernel_rfl) (fun _ _ _ h => h) (Or.inl ⟨by rfl, ?_⟩) (by assumption) ?_
          rotate_left
          · (intro w' hSw; (try dsimp only at hSw); go_simp) <;> with_reducible rfl
          change wpAnyH Tryz.prog _ _ _ _ _ _ (Act.put _ (some 45) _) _
          (try simp only [Act.put, List.setIfInBounds_toArray, List.set_cons_zero, List.set_cons_succ])
          refine wpAnyH_take (i := 12) (v := ?_) rfl (by kernel_rfl) (by kernel_rfl) (by kernel_rfl) (fun _ _ _ h => h) (Or.inl ⟨by rfl, ?_⟩) (by assumption) ?_
          rotate_left
          · (intro w' hSw; (try dsimp only at hSw); go_simp) <;> with_reducible rfl
          change wpAnyH Tryz.prog _ _ _ _ _ _ (Act.put _ (some 46) _) _
          (try simp only [Act.put, List.setIfInBounds_toArray, List.set_cons_zero, List.set_cons_succ])
          refine wpAnyH_take (i := 13) (v := ?_) rfl (by kernel_rfl) (by kernel_rfl) (by kernel_rfl) (fun _ _ _ h => h) (Or.inl ⟨by rfl, ?_⟩) (by assumption) ?_
          rotate_left
          · (intro w' hSw; (try dsimp only at hSw); go_simp) <;> with_reducible rfl
          change wpAnyH Tryz.prog _ _ _ _ _ _ (Act.put _ (some 47) _) _
          (try simp only [Act.put, List.setIfInBounds_toArray, List.set_cons_zero, List.set_cons_succ])
          refine wpAnyH_take (i := 14) (v := ?_) rfl (by kernel_rfl) (by kernel_rfl) (by kernel_rfl) (fun _ _ _ h => h) (Or.inl ⟨by rfl, ?_⟩) (by assumption) ?_
          rotate_left
          · (intro w' hSw; (try dsimp only at hSw); go_simp) <;> with_reducible rfl
          change wpAnyH Tryz.prog _ _ _ _ _ _ (Act.put _ (some 48) _) _
          (try simp only [Act.put, List.setIfInBounds_toArray, List.set_cons_zero, List.set_cons_succ])
          refine wpAnyH_take (i := 15) (v := ?_) rfl (by kernel_rfl) (by kernel_rfl) (by kernel_rfl) (fun _ _ _ h => h) (Or.inl ⟨by rfl, ?_⟩) (by assumption) ?_
          rotate_left
          · (intro w' hSw; (try dsimp only at hSw); go_simp) <;> with_reducible rfl
          change wpAnyH Tryz.prog _ _ _ _ _ _ (Act.put _ (some 49) _) _
          (try simp only [Act.put, List.setIfInBounds_toArray, List.set_cons_zero, List.set_cons_succ])
          refine wpAnyH_take (i := 16) (v := ?_) rfl (by kernel_rfl) (by kernel_rfl) (by kernel_rfl) (fun _ _ _ h => h) (Or.inl ⟨by rfl, ?_⟩) (by assumption) ?_
          rotate_left
          · (intro w' hSw; (try dsimp only at hSw); go_simp) <;> with_reducible rfl
          change wpAnyH Tryz.prog _ _ _ _ _ _ (Act.put _ (some 50) _) _
          (try simp only [Act.put, List.setIfInBounds_toArray, List.set_cons_zero, List.set_cons_succ])
          refine wpAnyH_ready (rs := [17]) (by kernel_rfl) (by simp) ?_
          refine AllReadyH.cons (i := 17) rfl (fun K hK => ?_) AllReadyH.nil
          go_simp
          refine (LH.out _ hx2 _).mono ?_
          rintro e w3 ⟨rfl, hb3⟩
          have hx3 := hx2.trans hb3
          cases hh with
          | true =>
            have HR : Hid (R = false) := V.out (by rw [UA.out, HW.out]; rfl)
            go_wp2_with fail
            refine hK.out _ _ ?_ (fun hHeld2 => ?_)
            · exact KS.out _ hx3
            clear hK hHeld1
            (try simp only [Act.put, List.setIfInBounds_toArray, List.set_cons_zero, List.set_cons_succ])
            refine wpAnyH_take (i := 18) (v := ?_) rfl (by kernel_rfl) (by kernel_rfl) (by kernel_rfl) (fun _ _ _ h => h) (Or.inl ⟨by rfl, ?_⟩) (by assumption) ?_
            rotate_left
            · (intro w' hSw; (try dsimp only at hSw); go_simp) <;> with_reducible rfl
            change wpAnyH Tryz.prog _ _ _ _ _ _ (Act.put _ (some 52) _) _
            (try simp only [Act.put, List.setIfInBounds_toArray, List.set_cons_zero, List.set_cons_succ])
            refine wpAnyH_done (by kernel_rfl) ?_ _
            go_wp2_with fail
            go_ret
            exact ⟨ret_b HR.out.symm, N.out.trans (E.out.trans hx3)⟩
          | false =>
            have HU : Hid _ := U.out (by rw [UA.out, HW.out]; rfl)
            go_wp2_with fail
            refine hK.out _ _ ?_ (fun hHeld2 => ?_)
            · exact KS.out _ hx3
            clear hK hHeld1
            (try simp only [Act.put, List.setIfInBounds_toArray, List.set_cons_zero, List.set_cons_succ])
            refine wpAnyH_take (i := 18) (v := ?_) rfl (by kernel_rfl) (by kernel_rfl) (by kernel_rfl) (fun _ _ _ h => h) (Or.inl ⟨by rfl, ?_⟩) (by assumption) ?_
            rotate_left
            · (intro w' hSw; (try dsimp only at hSw); go_simp) <;> with_reducible rfl
            change wpAnyH Tryz.prog _ _ _ _ _ _ (Act.put _ (some 52) _) _
            (try simp only [Act.put, List.setIfInBounds_toArray, List.set_cons_zero, List.set_cons_succ])
            refine wpAnyH_done (by kernel_rfl) ?_ _
            go_wp2_with fail
            go_roundw
            case rel => exact ⟨j + 1, by omega, by go_num, HU.out, E.out.trans hx3⟩
            case measure => simp [intOf]; omega
      · have HR : Hid (R = kindB (l.take at_) rec ns k nm fn ts tb tz eb ez) := RR.out.trans (bindB_kind (by omega) HT.out (uniqB_yes fun i hi => A.out i (by omega)))
        obtain ⟨c0, c1, c2, c3, c4, c5, c6, c7⟩ := C.out wr hx
        clear hx A RR HT NN T
        --TAIL
        by_cases k1 : k = 1
        · subst k1
          by_cases hS : blen tb + tlen tz + blen eb + tlen ez = 0
          · have s0 : ((blen tb : Int) + (tlen tz : Int) + (blen eb : Int) + (tlen ez : Int) == 0) = true := by rw [beq_iff_eq]; omega
            by_cases hF : fn.size = 0
            · have f0 : fn.toList.isEmpty = true := empty_size hF
              by_cases hn : nm.length = 1
              · have hn1 : ((nm.length : Int) == 1) = true := by rw [beq_iff_eq]; omega
                by_cases ht : tlen ts = 1
                · have ht1 : ((tlen ts : Int) == 1) = true := by rw [beq_iff_eq]; omega
                  have HV : Hid (R = true) := HR.out.trans (by rw [kindB_1, decide_eq_true hS, decide_eq_true hF, decide_eq_true hn, decide_eq_true ht]; rfl)
                  go_wp2_with fail
                  go_ret
                  exact ⟨ret_b HV.out.symm, N.out.trans E.out⟩
                · have ht1 : ((tlen ts : Int) == 1) = false := by rw [beq_eq_false_iff_ne]; omega
                  have HV : Hid (R = false) := HR.out.trans (by rw [kindB_1, decide_eq_true hS, decide_eq_true hF, decide_eq_true hn, decide_eq_false ht]; rfl)
                  go_wp2_with fail
                  go_ret
                  exact ⟨ret_b HV.out.symm, N.out.trans E.out⟩
              · have hn1 : ((nm.length : Int) == 1) = false := by rw [beq_eq_false_iff_ne]; omega
                have HV : Hid (R = false) := HR.out.trans (by rw [kindB_1, decide_eq_true hS, decide_eq_true hF, decide_eq_false hn]; rfl)
                go_wp2_with fail
                go_ret
                exact ⟨ret_b HV.out.symm, N.out.trans E.out⟩
            · have f0 : fn.toList.isEmpty = false := full_size hF
              have HV : Hid (R = false) := HR.out.trans (by rw [kindB_1, decide_eq_true hS, decide_eq_false hF]; rfl)
              go_wp2_with fail
              go_ret
              exact ⟨ret_b HV.out.symm, N.out.trans E.out⟩
          · have s0 : ((blen tb : Int) + (tlen tz : Int) + (blen eb : Int) + (tlen ez : Int) == 0) = false := by rw [beq_eq_false_iff_ne]; omega
            have HV : Hid (R = false) := HR.out.trans (by rw [kindB_1, decide_eq_false hS]; rfl)
            go_wp2_with fail
            go_ret
            exact ⟨ret_b HV.out.symm, N.out.trans E.out⟩
        by_cases k2 : k = 2
        · subst k2
          go_wp2_with fail
          refine (l12Arity_any l la lc at_ fn _ hat hl (Q.out _ (N.out.trans E.out))).mono ?_
          rintro e w4 ⟨rfl, hb4⟩
          obtain ⟨⟨g, sd, ok⟩, hg⟩ : ∃ g, arityR (l.take at_) fn = g := ⟨_, rfl⟩
          have G : Hid (arityR (l.take at_) fn = (g, sd, ok)) := hg
          rw [hg]
          obtain ⟨c0, c1, c2, c3, c4, c5, c6, c7⟩ := C.out w4 (E.out.trans hb4)
          clear hg
          by_cases hS : blen tb + tlen tz + blen eb + tlen ez = 0
          · have s0 : ((blen tb : Int) + (tlen tz : Int) + (blen eb : Int) + (tlen ez : Int) == 0) = true := by rw [beq_iff_eq]; omega
            cases ok with
            | false =>
              have HV : Hid (R = false) := HR.out.trans (by rw [kindB_2, decide_eq_true hS, G.out]; rfl)
              go_wp2_with fail
              go_ret
              exact ⟨ret_b HV.out.symm, N.out.trans (E.out.trans hb4)⟩
            | true =>
              by_cases hg : g = tlen ts
              · have hg1 : ((g : Int) == (tlen ts : Int)) = true := by rw [beq_iff_eq]; omega
                by_cases hs : sd = nm.length
                · have hs1 : ((sd : Int) == (nm.length : Int)) = true := by rw [beq_iff_eq]; omega
                  have HV : Hid (R = true) := HR.out.trans (by rw [kindB_2, decide_eq_true hS, G.out, decide_eq_true hg, decide_eq_true hs]; rfl)
                  go_wp2_with fail
                  go_ret
                  exact ⟨ret_b HV.out.symm, N.out.trans (E.out.trans hb4)⟩
                · have hs1 : ((sd : Int) == (nm.length : Int)) = false := by rw [beq_eq_false_iff_ne]; omega
                  have HV : Hid (R = false) := HR.out.trans (by rw [kindB_2, decide_eq_true hS, G.out, decide_eq_true hg, decide_eq_false hs]; rfl)
                  go_wp2_with fail
                  go_ret
                  exact ⟨ret_b HV.out.symm, N.out.trans (E.out.trans hb4)⟩
              · have hg1 : ((g : Int) == (tlen ts : Int)) = false := by rw [beq_eq_false_iff_ne]; omega
                have HV : Hid (R = false) := HR.out.trans (by rw [kindB_2, decide_eq_true hS, G.out, decide_eq_false hg]; rfl)
                go_wp2_with fail
                go_ret
                exact ⟨ret_b HV.out.symm, N.out.trans (E.out.trans hb4)⟩
          · have s0 : ((blen tb : Int) + (tlen tz : Int) + (blen eb : Int) + (tlen ez : Int) == 0) = false := by rw [beq_eq_false_iff_ne]; omega
            have HV : Hid (R = false) := HR.out.trans (by rw [kindB_2, decide_eq_false hS]; rfl)
            go_wp2_with fail
            go_ret
            exact ⟨ret_b HV.out.symm, N.out.trans (E.out.trans hb4)⟩
        by_cases k3 : k = 3
        · subst k3
          by_cases hF : fn.size = 0
          · have f0 : fn.toList.isEmpty = true := empty_size hF
            by_cases ht : tlen ts = 1
            · have ht1 : ((tlen ts : Int) == 1) = true := by rw [beq_iff_eq]; omega
              obtain ⟨r1, hr1⟩ : ∃ r, rec ns tb tz = r := ⟨_, rfl⟩
              obtain ⟨r2, hr2⟩ : ∃ r, rec ns eb ez = r := ⟨_, rfl⟩
              have R1 : Hid (rec ns tb tz = r1) := hr1
              have R2 : Hid (rec ns eb ez = r2) := hr2
              have b1 := B1.out
              have b2 := B2.out
              rw [hr1] at b1
              rw [hr2] at b2
              have BB1 : Hid _ := b1
              have BB2 : Hid _ := b2
              clear hr1 hr2 b1 b2
              go_wp2_with fail
              refine (BB1.out _ (N.out.trans E.out)).mono ?_
              rintro e w4 ⟨rfl, hb4⟩
              obtain ⟨c0, c1, c2, c3, c4, c5, c6, c7⟩ := C.out w4 (E.out.trans hb4)
              cases r1 with
              | false =>
                have HV : Hid (R = false) := HR.out.trans (by rw [kindB_3, decide_eq_true hF, decide_eq_true ht, R1.out]; rfl)
                go_wp2_with fail
                go_ret
                exact ⟨ret_b HV.out.symm, N.out.trans (E.out.trans hb4)⟩
              | true =>
                go_wp2_with fail
                refine (BB2.out _ (N.out.trans (E.out.trans hb4))).mono ?_
                rintro e w5 ⟨rfl, hb5⟩
                obtain ⟨c0, c1, c2, c3, c4, c5, c6, c7⟩ := C.out w5 (E.out.trans (hb4.trans hb5))
                cases r2 with
                | false =>
                  have HV : Hid (R = false) := HR.out.trans (by rw [kindB_3, decide_eq_true hF, decide_eq_true ht, R1.out, R2.out]; rfl)
                  go_wp2_with fail
                  go_ret
                  exact ⟨ret_b HV.out.symm, N.out.trans (E.out.trans (hb4.trans hb5))⟩
                | true =>
                  by_cases hz : tlen tz = nm.length
                  · have hz1 : ((tlen tz : Int) == (nm.length : Int)) = true := by rw [beq_iff_eq]; omega
                    by_cases he : tlen ez = nm.length
                    · have he1 : ((tlen ez : Int) == (nm.length : Int)) = true := by rw [beq_iff_eq]; omega
                      have HV : Hid (R = true) := HR.out.trans (by rw [kindB_3, decide_eq_true hF, decide_eq_true ht, R1.out, R2.out, decide_eq_true hz, decide_eq_true he]; rfl)
                      go_wp2_with fail
                      go_ret
                      exact ⟨ret_b HV.out.symm, N.out.trans (E.out.trans (hb4.trans hb5))⟩
                    · have he1 : ((tlen ez : Int) == (nm.length : Int)) = false := by rw [beq_eq_false_iff_ne]; omega
                      have HV : Hid (R = false) := HR.out.trans (by rw [kindB_3, decide_eq_true hF, decide_eq_true ht, R1.out, R2.out, decide_eq_true hz, decide_eq_false he]; rfl)
                      go_wp2_with fail
                      go_ret
                      exact ⟨ret_b HV.out.symm, N.out.trans (E.out.trans (hb4.trans hb5))⟩
                  · have hz1 : ((tlen tz : Int) == (nm.length : Int)) = false := by rw [beq_eq_false_iff_ne]; omega
                    have HV : Hid (R = false) := HR.out.trans (by rw [kindB_3, decide_eq_true hF, decide_eq_true ht, R1.out, R2.out, decide_eq_false hz]; rfl)
                    go_wp2_with fail
                    go_ret
                    exact ⟨ret_b HV.out.symm, N.out.trans (E.out.trans (hb4.trans hb5))⟩
            · have ht1 : ((tlen ts : Int) == 1) = false := by rw [beq_eq_false_iff_ne]; omega
              have HV : Hid (R = false) := HR.out.trans (by rw [kindB_3, decide_eq_true hF, decide_eq_false ht]; rfl)
              go_wp2_with fail
              go_ret
              exact ⟨ret_b HV.out.symm, N.out.trans E.out⟩
          · have f0 : fn.toList.isEmpty = false := full_size hF
            have HV : Hid (R = false) := HR.out.trans (by rw [kindB_3, decide_eq_false hF]; rfl)
            go_wp2_with fail
            go_ret
            exact ⟨ret_b HV.out.symm, N.out.trans E.out⟩
        have q1 : (k == 1) = false := by rw [beq_eq_false_iff_ne]; exact k1
        have q2 : (k == 2) = false := by rw [beq_eq_false_iff_ne]; exact k2
        have q3 : (k == 3) = false := by rw [beq_eq_false_iff_ne]; exact k3
        have HV : Hid (R = false) := HR.out.trans (kindB_o k1 k2 k3)
        go_wp2_with fail
        go_ret
        exact ⟨ret_b HV.out.symm, N.out.trans E.out⟩

end Go.Proofs.YtldbmlojgakieaaGreatDoor
