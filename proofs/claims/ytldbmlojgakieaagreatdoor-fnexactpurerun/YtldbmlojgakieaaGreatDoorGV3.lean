/- Walks: the program's terms that are ok by names. Values as they lie in memory. Walks: the type of a value. Walks: whether two types are the same, by the program. Walks: whether a value is of a type, by the program. -/
import Derived.Test.YtldbmlojgakieaaGreatDoorGIM4
import Derived.Test.YtldbmlojgakieaaGreatDoorGW5
namespace Go.Proofs.YtldbmlojgakieaaGreatDoor

open Go.RowKit Go.Deep Go.Maps Go.WideMaps

attribute [local go_sem ↓] Go.wp_at_zero Go.wp_at_succ

theorem pathB_none {p : List Int} (h : p.length = 0) : pathB p = true := by
  have := List.length_eq_zero_iff.mp h
  subst this; rfl
theorem own_tok (ns : List ByteArray) (k n : Int) (s : ByteArray) (p : List Int) (l : Nat) : ((decide (l ≤ 2) && decide (p.length ≤ 4)) && (pathB p && ownB ns k n s p l)) = (tokB k n s p l && (!decide (k = 2) || hasB ns s)) := by
  by_cases k1 : k = 1
  · subst k1
    by_cases hs : s.size = 0
    · by_cases hp : p.length = 0
      · rw [ownB_1 hs hp, tokB_1, pathB_none hp, decide_eq_true hs, decide_eq_true hp, decide_eq_true (show p.length ≤ 4 by omega)]
        by_cases hl : l = 0
        · subst hl; simp
        · simp [hl]
      · rw [ownB_p (by decide) hp, tokB_1, decide_eq_true hs, decide_eq_false hp]; simp
    · rw [ownB_s (by decide) hs, tokB_1, decide_eq_false hs]; simp
  by_cases k2 : k = 2
  · subst k2
    by_cases hn : n = 0
    · by_cases hp : p.length = 0
      · rw [ownB_2 hn hp, tokB_2, pathB_none hp, decide_eq_true hn, decide_eq_true hp, decide_eq_true (show p.length ≤ 4 by omega)]
        by_cases hl : l = 0
        · subst hl; simp
        · simp [hl]
      · rw [ownB_p (by decide) hp, tokB_2, decide_eq_true hn, decide_eq_false hp]; simp
    · rw [ownB_n (by decide) hn, tokB_2, decide_eq_false hn]; simp
  rw [decide_eq_false k2]
  by_cases k7 : k = 7
  · subst k7
    by_cases hn : n = 0
    · by_cases hs : s.size = 0
      · rw [ownB_7 hn hs, tokB_7, decide_eq_true hn, decide_eq_true hs]
        by_cases hl : l = 1
        · subst hl; simp
        · simp [hl]
      · rw [ownB_s (by decide) hs, tokB_7, decide_eq_true hn, decide_eq_false hs]; simp
    · rw [ownB_n (by decide) hn, tokB_7, decide_eq_false hn]; simp
  by_cases k8 : k = 8
  · subst k8
    by_cases hn : n = 0
    · by_cases hs : s.size = 0
      · rw [ownB_8 hn hs, tokB_8, decide_eq_true hn, decide_eq_true hs]
        by_cases hl : l = 2
        · subst hl; simp
        · simp [hl]
      · rw [ownB_s (by decide) hs, tokB_8, decide_eq_true hn, decide_eq_false hs]; simp
    · rw [ownB_n (by decide) hn, tokB_8, decide_eq_false hn]; simp
  by_cases hk : k = 3 ∨ k = 4 ∨ k = 5 ∨ k = 6
  · rw [tokB_3 hk]
    by_cases hn : n = 0
    · by_cases hs : s.size = 0
      · by_cases hp : p.length = 0
        · rw [ownB_o k1 k2 k7 hn hs hp, pathB_none hp, decide_eq_true hn, decide_eq_true hs, decide_eq_true hp, decide_eq_true (show p.length ≤ 4 by omega), decide_eq_true (show 3 ≤ k ∧ k ≤ 8 by omega)]
          by_cases hl : l = 2
          · subst hl; simp
          · simp [hl]
        · rw [ownB_p (by omega) hp, decide_eq_true hn, decide_eq_true hs, decide_eq_false hp]; simp
      · rw [ownB_s k2 hs, decide_eq_true hn, decide_eq_false hs]; simp
    · rw [ownB_n k1 hn, decide_eq_false hn]; simp
  · rw [tokB_o (by omega)]
    by_cases hn : n = 0
    · by_cases hs : s.size = 0
      · by_cases hp : p.length = 0
        · rw [ownB_o k1 k2 k7 hn hs hp, decide_eq_false (show ¬ (3 ≤ k ∧ k ≤ 8) by omega)]; simp
        · rw [ownB_p (by omega) hp]; simp
      · rw [ownB_s k2 hs]; simp
    · rw [ownB_n k1 hn]; simp

/-- All terms of a list are ok by names. -/
def kidsB (ns : List ByteArray) (d : Nat) (f : TM) : Bool := (List.range (tlen f)).all fun i => kidB ns d f i
theorem kidsB_no {ns : List ByteArray} {d : Nat} {f : TM} {i : Nat} (h : i < tlen f) (hb : kidB ns d f i = false) : kidsB ns d f = false := by
  simp only [kidsB]
  rw [List.all_eq_false]
  exact ⟨i, List.mem_range.2 h, by rw [hb]; simp⟩
theorem kidsB_yes {ns : List ByteArray} {d : Nat} {f : TM} (h : ∀ i, i < tlen f → kidB ns d f i = true) : kidsB ns d f = true := by
  simp only [kidsB]
  rw [List.all_eq_true]
  exact fun i hi => h i (List.mem_range.1 hi)
theorem termB_tok (ns : List ByteArray) (d : Nat) (k n : Int) (s : ByteArray) (p : List Int) (f : TM) : termB ns (d + 1) k n s p f = (tokB k n s p (tlen f) && ((!decide (k = 2) || hasB ns s) && kidsB ns d f)) := by
  have h := own_tok ns k n s p (tlen f)
  show ((decide (tlen f ≤ 2) && decide (p.length ≤ 4)) && (kidsB ns d f && (pathB p && ownB ns k n s p (tlen f)))) = _
  rw [← Bool.and_assoc (tokB _ _ _ _ _), ← h]
  cases kidsB ns d f <;> simp

/-- The fault, and none. -/
abbrev EV (ea : Addr) : Value := .iface 233 (.pointer (some ea))
def errV (ea : Addr) (ok : Bool) : Value := if ok then .nilIface else EV ea
def ErrP (ea : Addr) (ok : Bool) (w : World) (e : Ending) (w' : World) : Prop := e = .returned (errV ea ok) ∧ Ex w w'

set_option maxRecDepth 100000 in
set_option maxHeartbeats 2000000 in
theorem term_by (ea : Addr) (aa : Option Addr) (al ac mb m : Nat) (ns : List ByteArray) (k n : Int) (s : ByteArray) (p : List Int) (pa : Option Addr) (pc : Nat) (f : TM) (a : Option Addr) (c d : Nat) (hd : d ≤ 1000) (w : World)
    (hG : w.cell? ⟨0, 0, none⟩ = some (EV ea)) (hC : CM w mb m ns) (hs : s.size ≤ 9223372036854775807) (hP : PA w 0 p pa)
    (hK : ∀ w', Ex w w' → Calls Tryz.prog 119 #[.agg #[.slice aa al ac, .map (some mb)], .slice a (tlen f) c, .int .i64 d] w' (ErrP ea (kidsB ns d f) w')) :
    Calls Tryz.prog 130 #[.agg #[.slice aa al ac, .map (some mb)], .agg #[.int .i64 k, .int .i64 n, .string s, .slice pa p.length pc, .slice a (tlen f) c], .int .i64 (d + 1 : Nat)] w (ErrP ea (termB ns (d + 1) k n s p f) w) := by
  have G : Hid (∀ w', Ex w w' → w'.cell? ⟨0, 0, none⟩ = some (EV ea)) := fun w' h => h.at hG
  have CC : Hid (∀ w', Ex w w' → CM w' mb m ns) := fun w' h => hC.ex h
  have P : Hid (∀ w', Ex w w' → PA w' 0 p pa) := fun _ h => PA_below hP h
  have K : Hid _ := hK
  have SZ : Hid _ := hs
  have N : Hid (Ex w ((w.alloc (.cells #[.slice aa al ac, .map (some mb)] 177)).alloc (.cells #[.int .i64 k, .int .i64 n, .string s, .slice pa p.length pc, .slice a (tlen f) c] 121))) := (Ex.new _ _).alloc _
  have C : Hid (∀ w', Ex ((w.alloc (.cells #[.slice aa al ac, .map (some mb)] 177)).alloc (.cells #[.int .i64 k, .int .i64 n, .string s, .slice pa p.length pc, .slice a (tlen f) c] 121)) w' → w'.cell? ⟨w.heap.size, 0, none⟩ = some (.slice aa al ac) ∧ w'.cell? ⟨w.heap.size, 1, none⟩ = some (.map (some mb)) ∧ w'.cell? ⟨w.heap.size + 1, 0, none⟩ = some (.int .i64 k) ∧ w'.cell? ⟨w.heap.size + 1, 1, none⟩ = some (.int .i64 n) ∧ w'.cell? ⟨w.heap.size + 1, 2, none⟩ = some (.string s) ∧ w'.cell? ⟨w.heap.size + 1, 3, none⟩ = some (.slice pa p.length pc) ∧ w'.cell? ⟨w.heap.size + 1, 4, none⟩ = some (.slice a (tlen f) c)) := fun w' h => ⟨h.at (by simp), h.at (by simp), h.at (by simp), h.at (by simp), h.at (by simp), h.at (by simp), h.at (by simp)⟩
  have HT : Hid (termB ns (d + 1) k n s p f = (tokB k n s p (tlen f) && ((!decide (k = 2) || hasB ns s) && kidsB ns d f))) := termB_tok ns d k n s p f
  obtain ⟨R, hR⟩ : ∃ R, R = termB ns (d + 1) k n s p f := ⟨_, rfl⟩
  rw [← hR] at HT ⊢
  obtain ⟨bt, hbt⟩ : ∃ b, tokB k n s p (tlen f) = b := ⟨_, rfl⟩
  have TO : Hid (∀ w', Ex w w' → Calls Tryz.prog 140 #[.agg #[.int .i64 k, .int .i64 n, .string s, .slice pa p.length pc, .slice a (tlen f) c]] w' fun e w'' => e = .returned (.bool bt) ∧ Ex w' w'') := fun w' h => by have := termOk_any k n s p pa pc (tlen f) a c w' (P.out w' h); rw [hbt] at this; exact this
  rw [hbt] at HT
  obtain ⟨D, hD⟩ : ∃ D : Int, D = ((d + 1 : Nat) : Int) := ⟨_, rfl⟩
  rw [← hD]
  have d0 : (D == 0) = false := by rw [beq_eq_false_iff_ne]; omega
  have d3 : D - 1 = (d : Int) := by omega
  have d4 : IntKind.i64.wrap (D - 1) = (d : Int) := by rw [d3]; exact IntWalk.i64_in _ (by omega)
  clear hR hbt hG hC hP hK hs hD P
  go_enter Tryz.func130, Tryz.ntmps130
  go_wp2_with fail
  refine (TO.out _ N.out).mono ?_
  rintro e w1 ⟨rfl, hb1⟩
  have X1 : Hid (Ex ((w.alloc (.cells #[.slice aa al ac, .map (some mb)] 177)).alloc (.cells #[.int .i64 k, .int .i64 n, .string s, .slice pa p.length pc, .slice a (tlen f) c] 121)) w1) := hb1
  obtain ⟨c0, c1, c2, c3, c4, c5, c6⟩ := C.out w1 hb1
  have g0 := G.out w1 (N.out.trans hb1)
  clear hb1 TO
  cases bt with
  | false =>
    have HR : Hid (R = false) := HT.out
    go_wp2_with fail
    go_ret
    exact ⟨by rw [HR.out]; rfl, N.out.trans X1.out⟩
  | true =>
    have FIN : Hid (∀ w', Ex ((w.alloc (.cells #[.slice aa al ac, .map (some mb)] 177)).alloc (.cells #[.int .i64 k, .int .i64 n, .string s, .slice pa p.length pc, .slice a (tlen f) c] 121)) w' → R = kidsB ns d f → Calls Tryz.prog 119 #[.agg #[.slice aa al ac, .map (some mb)], .slice a (tlen f) c, .int .i64 d] w' (ErrP ea R w')) := fun w' h hr => by rw [hr]; exact K.out w' (N.out.trans h)
    clear K
    by_cases k2 : k = 2
    · have q2 : (k == 2) = true := by rw [beq_iff_eq]; exact k2
      have hrun := (CC.out w1 (N.out.trans X1.out)).look SZ.out
      have hcl := cntN_le ns s
      have HB : Hid (hasB ns s = decide (cntN ns s ≠ 0)) := cntN_has _ _
      have HT2 : Hid (R = (hasB ns s && kidsB ns d f)) := HT.out.trans (by rw [decide_eq_true k2]; rfl)
      have K2 : Hid (k = 2) := k2
      obtain ⟨cn, hce⟩ : ∃ cn, cntN ns s = cn := ⟨_, rfl⟩
      rw [hce] at hrun hcl HB
      clear hce k2
      by_cases h0 : cn = 0
      · have e0 : ((cn : Int) == 0) = true := by rw [beq_iff_eq]; omega
        have HR : Hid (R = false) := HT2.out.trans (by rw [HB.out, decide_eq_false (by omega)]; rfl)
        clear h0
        go_wp2_with fail
        go_ret
        exact ⟨by rw [HR.out]; rfl, N.out.trans X1.out⟩
      · have e0 : ((cn : Int) == 0) = false := by rw [beq_eq_false_iff_ne]; omega
        have HR : Hid (R = kidsB ns d f) := HT2.out.trans (by rw [HB.out, decide_eq_true h0]; rfl)
        clear h0
        go_wp2_with fail
        refine (FIN.out _ X1.out HR.out).mono ?_
        rintro e w2 ⟨rfl, hb2⟩
        go_wp2_with fail
        go_ret
        exact ⟨rfl, N.out.trans (X1.out.trans hb2)⟩
    · have q2 : (k == 2) = false := by rw [beq_eq_false_iff_ne]; exact k2
      have HR : Hid (R = kidsB ns d f) := HT.out.trans (by rw [decide_eq_false k2]; rfl)
      go_wp2_with fail
      refine (FIN.out _ X1.out HR.out).mono ?_
      rintro e w2 ⟨rfl, hb2⟩
      go_wp2_with fail
      go_ret
      exact ⟨rfl, N.out.trans (X1.out.trans hb2)⟩

set_option maxRecDepth 100000 in
set_option maxHeartbeats 2000000 in
theorem term_zero (ea : Addr) (aa : Option Addr) (al ac mb : Nat) (k n : Int) (s : ByteArray) (p : List Int) (pa : Option Addr) (pc : Nat) (f : TM) (a : Option Addr) (c : Nat) (w : World) (hG : w.cell? ⟨0, 0, none⟩ = some (EV ea)) :
    Calls Tryz.prog 130 #[.agg #[.slice aa al ac, .map (some mb)], .agg #[.int .i64 k, .int .i64 n, .string s, .slice pa p.length pc, .slice a (tlen f) c], .int .i64 (0 : Nat)] w (ErrP ea false w) := by
  have g0 : ((w.alloc (.cells #[.slice aa al ac, .map (some mb)] 177)).alloc (.cells #[.int .i64 k, .int .i64 n, .string s, .slice pa p.length pc, .slice a (tlen f) c] 121)).cell? ⟨0, 0, none⟩ = some (EV ea) := ((Ex.new _ _).alloc _).at hG
  go_enter Tryz.func130, Tryz.ntmps130
  go_wp2_with fail
  go_ret
  exact ⟨rfl, (Ex.new _ _).alloc _⟩

set_option maxRecDepth 100000 in
set_option maxHeartbeats 2000000 in
theorem terms_by (ea : Addr) (aa : Option Addr) (al ac mb : Nat) (ns : List ByteArray) (f : TM) (a : Option Addr) (c d : Nat) (w : World) (hM : MA w 0 f a) (hl : tlen f ≤ 1000000000)
    (hK : ∀ j, j < tlen f → ∀ (pa : Option Addr) (pc : Nat) (a' : Option Addr) (c' : Nat) (w' : World), Ex w w' → PA w' 0 (tpath f j) pa → MA w' 0 (tkid f j) a' → Calls Tryz.prog 130 #[.agg #[.slice aa al ac, .map (some mb)], .agg #[.int .i64 (tkind f j), .int .i64 (tnum f j), .string (tname f j), .slice pa (tpath f j).length pc, .slice a' (tlen (tkid f j)) c'], .int .i64 d] w' (ErrP ea (kidB ns d f j) w')) :
    Calls Tryz.prog 119 #[.agg #[.slice aa al ac, .map (some mb)], .slice a (tlen f) c, .int .i64 d] w (ErrP ea (kidsB ns d f) w) := by
  have M : Hid (∀ w', Ex w w' → MA w' 0 f a) := fun _ h => MA_below hM h
  have I : Hid _ := hK
  have N : Hid (Ex w (w.alloc (.cells #[.slice aa al ac, .map (some mb)] 177))) := Ex.new _ _
  have C : Hid (∀ w', Ex (w.alloc (.cells #[.slice aa al ac, .map (some mb)] 177)) w' → w'.cell? ⟨w.heap.size, 0, none⟩ = some (.slice aa al ac) ∧ w'.cell? ⟨w.heap.size, 1, none⟩ = some (.map (some mb))) := fun w' h => ⟨h.at (by simp), h.at (by simp)⟩
  clear hM hK
  obtain ⟨R, hR⟩ : ∃ R, R = kidsB ns d f := ⟨_, rfl⟩
  have RR : Hid (R = kidsB ns d f) := hR
  rw [← hR]
  clear hR
  go_enter Tryz.func119, Tryz.ntmps119
  go_wp2_with fail
  go_loopw [8, 9, 12] (fun _ _ i wr => ∃ (j : Nat), j ≤ tlen f ∧ i = .int .i64 j ∧ (∀ l, l < j → kidB ns d f l = true) ∧ Ex (w.alloc (.cells #[.slice aa al ac, .map (some mb)] 177)) wr) (fun _ _ i _ => tlen f - (intOf i).toNat)
  case atStart => exact ⟨0, by omega, rfl, fun j hj => by omega, Ex.refl _⟩
  case round =>
    obtain ⟨j, hj, rfl, hall, hx⟩ := hrel
    have A : Hid (∀ l, l < j → kidB ns d f l = true) := hall
    have E : Hid (Ex (w.alloc (.cells #[.slice aa al ac, .map (some mb)] 177)) wr) := hx
    obtain ⟨c0, c1⟩ := C.out wr hx
    clear hall hx
    by_cases hlt : j < tlen f
    · obtain ⟨b, o, rfl, _, hbs, hk⟩ := MA_at (M.out wr (N.out.trans E.out)) (by omega)
      obtain ⟨e0, e1, e2, ⟨pa, pc, e3, hp'⟩, a', c', e4, hm'⟩ := hk j hlt
      have HI : Hid (∀ w', Ex wr w' → Calls Tryz.prog 130 #[.agg #[.slice aa al ac, .map (some mb)], .agg #[.int .i64 (tkind f j), .int .i64 (tnum f j), .string (tname f j), .slice pa (tpath f j).length pc, .slice a' (tlen (tkid f j)) c'], .int .i64 d] w' (ErrP ea (kidB ns d f j) w')) := fun w' h => I.out j hlt pa pc a' c' w' (N.out.trans (E.out.trans h)) (PA_below (PS_pa.1 hp'.1) h) (MA_below hm' h)
      have U : Hid (kidB ns d f j = true → ∀ l, l < j + 1 → kidB ns d f l = true) := fun h => upto_succ A.out h
      have V : Hid (kidB ns d f j = false → R = false) := fun h => RR.out.trans (kidsB_no hlt h)
      clear hk hp' hm'
      have zr : w.heap.size < wr.heap.size := by have := E.out.size; rw [World.size_alloc] at this; omega
      go_wp2_with fail
      refine Calls.mono (HI.out _ (Ex.new _ _)) ?_
      rintro e w1 ⟨rfl, hb1⟩
      have E1 : Hid (Ex (w.alloc (.cells #[.slice aa al ac, .map (some mb)] 177)) w1) := E.out.trans ((Ex.new _ _).trans hb1)
      clear hb1 HI
      cases hkb : kidB ns d f j with
      | false =>
        have HR : Hid (R = false) := V.out hkb
        clear hkb
        simp only [errV, Bool.false_eq_true, if_false]
        go_wp2_with fail
        go_ret
        exact ⟨by rw [HR.out]; rfl, N.out.trans E1.out⟩
      | true =>
        have HU : Hid _ := U.out hkb
        clear hkb
        simp only [errV, if_true]
        go_wp2_with fail
        go_roundw
        case rel => exact ⟨j + 1, by omega, by go_num, HU.out, E1.out⟩
        case measure => simp [intOf]; omega
    · have HR : Hid (R = true) := RR.out.trans (kidsB_yes fun l hl => A.out l (by omega))
      go_wp2_with fail
      go_ret
      exact ⟨by rw [HR.out]; rfl, N.out.trans E.out⟩

theorem terms_any (ea : Addr) (aa : Option Addr) (al ac mb m : Nat) (ns : List ByteArray) : ∀ (d : Nat) (f : TM) (a : Option Addr) (c : Nat) (w : World), d ≤ 1000 → w.cell? ⟨0, 0, none⟩ = some (EV ea) → CM w mb m ns → MA w 0 f a → tlen f ≤ 1000000000 → TSm f → TLm f →
    Calls Tryz.prog 119 #[.agg #[.slice aa al ac, .map (some mb)], .slice a (tlen f) c, .int .i64 d] w (ErrP ea (kidsB ns d f) w) := by
  intro d
  induction d with
  | zero =>
    intro f a c w _ hG _ hM hl _ _
    exact terms_by ea aa al ac mb ns f a c 0 w hM hl fun j hj pa pc a' c' w' hx _ _ => term_zero ea aa al ac mb _ _ _ _ pa pc _ a' c' w' (hx.at hG)
  | succ d ih =>
    intro f a c w hd hG hC hM hl hsm hlm
    refine terms_by ea aa al ac mb ns f a c (d + 1) w hM hl fun j hj pa pc a' c' w' hx hp hm => ?_
    obtain ⟨g1, g2, g3⟩ := TSm_kid hsm j hj
    obtain ⟨h1, h2, h3, h4⟩ := TLm_at hlm j hj
    exact term_by ea aa al ac mb m ns _ _ _ _ pa pc _ a' c' d (by omega) w' (hx.at hG) (hC.ex hx) h1 hp fun w2 hx2 => ih _ a' c' w2 (by omega) ((hx.trans hx2).at hG) (hC.ex (hx.trans hx2)) (MA_below hm hx2) g2 g3 h4

end Go.Proofs.YtldbmlojgakieaaGreatDoor

namespace Go.Proofs.YtldbmlojgakieaaGreatDoor

open Go.RowKit Go.Deep

/-- A list of values lies at block b from place o on: two cells each, its own list behind the second, all in blocks of S. -/
def VC (w : World) (S : Nat → Prop) : F → Nat → Nat → Prop
  | .nil, _, _ => True
  | .node _ _ n k r, b, o => (w.cell? ⟨b, o, none⟩ = some (.int .i64 n) ∧ ∃ a cap, w.cell? ⟨b, o + 1, none⟩ = some (.slice a (len k) cap) ∧ (len k = 0 ∨ ∃ b' o', a = some ⟨b', o', none⟩ ∧ S b' ∧ VC w S k b' o')) ∧ VC w S r b (o + 2)

/-- A list of values lies behind a slice's address. -/
def VS (w : World) (S : Nat → Prop) (f : F) (a : Option Addr) : Prop := len f = 0 ∨ ∃ b o, a = some ⟨b, o, none⟩ ∧ S b ∧ VC w S f b o

theorem VC_cell {w : World} {S : Nat → Prop} : ∀ {f : F} {b o : Nat}, VC w S f b o → ∀ i, i < len f → w.cell? ⟨b, o + i * 2, none⟩ = some (.int .i64 (num f i)) ∧ ∃ a cap, w.cell? ⟨b, o + i * 2 + 1, none⟩ = some (.slice a (len (kid f i)) cap) ∧ VS w S (kid f i) a
  | .nil, _, _, _, i, h => by simp [len] at h
  | .node _ _ _ k r, b, o, hc, 0, _ => hc.1
  | .node _ _ _ k r, b, o, hc, i + 1, h => by
    have := VC_cell hc.2 i (by simp only [len] at h; omega)
    rw [show o + 2 + i * 2 = o + (i + 1) * 2 by omega] at this
    exact this

theorem VC_mk {w : World} {S : Nat → Prop} : ∀ {f : F} {b o : Nat}, (∀ i, i < len f → w.cell? ⟨b, o + i * 2, none⟩ = some (.int .i64 (num f i)) ∧ ∃ a cap, w.cell? ⟨b, o + i * 2 + 1, none⟩ = some (.slice a (len (kid f i)) cap) ∧ VS w S (kid f i) a) → VC w S f b o
  | .nil, _, _, _ => trivial
  | .node _ _ _ k r, b, o, h => by
    refine ⟨h 0 (by simp [len]), VC_mk fun i hi => ?_⟩
    have := h (i + 1) (by simp only [len]; omega)
    rw [show o + (i + 1) * 2 = o + 2 + i * 2 by omega] at this
    exact this

theorem VC_ks {w w' : World} {S : Nat → Prop} (hk : Ks S w w') : ∀ {f : F} {b o : Nat}, S b → VC w S f b o → VC w' S f b o
  | .nil, _, _, _, _ => trivial
  | .node _ _ _ k r, b, o, hb, ⟨⟨hn, a, cap, hc, hr⟩, h2⟩ => by
    refine ⟨⟨?_, a, cap, ?_, ?_⟩, VC_ks hk hb h2⟩
    · rw [hk.cell hb (World.block_lt_of_cell? _ _ hn)]; exact hn
    · rw [hk.cell hb (World.block_lt_of_cell? _ _ hc)]; exact hc
    · rcases hr with h0 | ⟨b', o', e, hb', ht⟩
      · exact Or.inl h0
      · exact Or.inr ⟨b', o', e, hb', VC_ks hk hb' ht⟩

theorem VS_ks {w w' : World} {S : Nat → Prop} {f : F} {a : Option Addr} (h : VS w S f a) (hk : Ks S w w') : VS w' S f a := by
  rcases h with h | ⟨b, o, e, hb, ht⟩
  · exact Or.inl h
  · exact Or.inr ⟨b, o, e, hb, VC_ks hk hb ht⟩

theorem VC_mono {w : World} {S S' : Nat → Prop} (hl : ∀ b, b < w.heap.size → S b → S' b) : ∀ {f : F} {b o : Nat}, VC w S f b o → VC w S' f b o
  | .nil, _, _, _ => trivial
  | .node _ _ _ k r, b, o, ⟨⟨hn, a, cap, hc, hr⟩, h2⟩ => by
    refine ⟨⟨hn, a, cap, hc, ?_⟩, VC_mono hl h2⟩
    rcases hr with h0 | ⟨b', o', e, hb', ht⟩
    · exact Or.inl h0
    · by_cases h0 : len k = 0
      · exact Or.inl h0
      · have hc' := (VC_cell ht 0 (by omega)).1
        exact Or.inr ⟨b', o', e, hl b' (World.block_lt_of_cell? _ _ hc') hb', VC_mono hl ht⟩

theorem VS_mono {w : World} {S S' : Nat → Prop} {f : F} {a : Option Addr} (h : VS w S f a) (hl : ∀ b, b < w.heap.size → S b → S' b) : VS w S' f a := by
  rcases h with h | ⟨b, o, e, hb, ht⟩
  · exact Or.inl h
  · by_cases h0 : len f = 0
    · exact Or.inl h0
    · have hc' := (VC_cell ht 0 (by omega)).1
      exact Or.inr ⟨b, o, e, hl b (World.block_lt_of_cell? _ _ hc') hb, VC_mono hl ht⟩

theorem VS_at {w : World} {S : Nat → Prop} {f : F} {a : Option Addr} (h : VS w S f a) (h0 : 0 < len f) : ∃ b o, a = some ⟨b, o, none⟩ ∧ S b ∧ b < w.heap.size ∧
    ∀ i, i < len f → w.cell? ⟨b, o + i * 2, none⟩ = some (.int .i64 (num f i)) ∧ ∃ a' cap, w.cell? ⟨b, o + i * 2 + 1, none⟩ = some (.slice a' (len (kid f i)) cap) ∧ VS w S (kid f i) a' := by
  rcases h with h | ⟨b, o, e, hb, ht⟩
  · omega
  · have hc := (VC_cell ht 0 h0).1
    exact ⟨b, o, e, hb, World.block_lt_of_cell? _ _ hc, fun i hi => VC_cell ht i hi⟩

theorem VS_mk {w : World} {S : Nat → Prop} {f : F} {g o : Nat} (hg : S g) (h : ∀ i, i < len f → w.cell? ⟨g, o + i * 2, none⟩ = some (.int .i64 (num f i)) ∧ ∃ a cap, w.cell? ⟨g, o + i * 2 + 1, none⟩ = some (.slice a (len (kid f i)) cap) ∧ VS w S (kid f i) a) : VS w S f (some ⟨g, o, none⟩) :=
  Or.inr ⟨g, o, rfl, hg, VC_mk h⟩

/-- .. all from block lo on. -/
def VA (w : World) (lo : Nat) (f : F) (a : Option Addr) : Prop := VS w (fun b => lo ≤ b) f a

theorem VA_kp {w w' : World} {lo : Nat} {f : F} {a : Option Addr} (h : VA w lo f a) (hk : Kp lo w w') : VA w' lo f a := VS_ks h hk.block
theorem VA_lo {w : World} {lo lo' : Nat} {f : F} {a : Option Addr} (h : VA w lo f a) (hl : lo' ≤ lo) : VA w lo' f a := VS_mono h fun _ _ hb => Nat.le_trans hl hb
theorem VA_below {w w' : World} {lo : Nat} {f : F} {a : Option Addr} (h : VA w lo f a) (hb : Below w.heap.size w w') : VA w' lo f a := VA_kp h (Kp.of_below hb lo)
theorem VA_nil (w : World) (lo : Nat) (a : Option Addr) : VA w lo .nil a := Or.inl rfl
theorem VA_at {w : World} {lo : Nat} {f : F} {a : Option Addr} (h : VA w lo f a) (h0 : 0 < len f) : ∃ b o, a = some ⟨b, o, none⟩ ∧ lo ≤ b ∧ b < w.heap.size ∧
    ∀ i, i < len f → w.cell? ⟨b, o + i * 2, none⟩ = some (.int .i64 (num f i)) ∧ ∃ a' cap, w.cell? ⟨b, o + i * 2 + 1, none⟩ = some (.slice a' (len (kid f i)) cap) ∧ VA w lo (kid f i) a' := VS_at h h0
/-- A pair of two. -/
theorem VA_two {w : World} {lo : Nat} {f : F} (h2 : len f = 2) {g : Nat} (hg : lo ≤ g) {a0 a1 : Option Addr} {k0 k1 : Nat} (n0 : w.cell? ⟨g, 0, none⟩ = some (.int .i64 (num f 0))) (c0 : w.cell? ⟨g, 1, none⟩ = some (.slice a0 (len (kid f 0)) k0))
    (n1 : w.cell? ⟨g, 2, none⟩ = some (.int .i64 (num f 1))) (c1 : w.cell? ⟨g, 3, none⟩ = some (.slice a1 (len (kid f 1)) k1))
    (t0 : VA w lo (kid f 0) a0) (t1 : VA w lo (kid f 1) a1) : VA w lo f (some ⟨g, 0, none⟩) := by
  refine VS_mk hg fun i hi => ?_
  have : i = 0 ∨ i = 1 := by omega
  rcases this with rfl | rfl
  · exact ⟨n0, a0, k0, c0, t0⟩
  · exact ⟨n1, a1, k1, c1, t1⟩
/-- The two of a pair. -/
theorem VA_pair {w : World} {lo : Nat} {f : F} {a : Option Addr} (h : VA w lo f a) (h2 : len f = 2) : ∃ b o a0 a1 k0 k1, a = some ⟨b, o, none⟩ ∧ lo ≤ b ∧ b < w.heap.size ∧
    w.cell? ⟨b, o, none⟩ = some (.int .i64 (num f 0)) ∧ w.cell? ⟨b, o + 1, none⟩ = some (.slice a0 (len (kid f 0)) k0) ∧ w.cell? ⟨b, o + 2, none⟩ = some (.int .i64 (num f 1)) ∧ w.cell? ⟨b, o + 3, none⟩ = some (.slice a1 (len (kid f 1)) k1) ∧ VA w lo (kid f 0) a0 ∧ VA w lo (kid f 1) a1 := by
  obtain ⟨b, o, e, h1, h3, hk⟩ := VA_at h (by omega)
  obtain ⟨n0, a0, k0, c0, t0⟩ := hk 0 (by omega)
  obtain ⟨n1, a1, k1, c1, t1⟩ := hk 1 (by omega)
  exact ⟨b, o, a0, a1, k0, k1, e, h1, h3, n0, c0, n1, c1, t0, t1⟩

/-- The one type that a value in form is of, at most so deep. -/
def vType : Nat → Int → F → Option F
  | 0, _, _ => none
  | r + 1, n, f =>
    if len f = 0 then (if 0 ≤ n ∧ n ≤ 9999 then some .nil else none)
    else if len f = 2 ∧ n = 0 then
      (vType r (num f 0) (kid f 0)).bind fun a => (vType r (num f 1) (kid f 1)).bind fun b => some (two 0 a 0 b)
    else none

end Go.Proofs.YtldbmlojgakieaaGreatDoor

namespace Go.Proofs.YtldbmlojgakieaaGreatDoor

open Go.RowKit Go.Deep

attribute [local go_sem ↓] Go.wp_at_zero Go.wp_at_succ

theorem vType_zero (n : Int) (f : F) : vType 0 n f = none := rfl
theorem vType_num {r : Nat} {n : Int} {f : F} (h : len f = 0) : vType (r + 1) n f = if 0 ≤ n ∧ n ≤ 9999 then some .nil else none := by simp [vType, h]
theorem vType_bad {r : Nat} {n : Int} {f : F} (h : len f ≠ 0) (hb : ¬ (len f = 2 ∧ n = 0)) : vType (r + 1) n f = none := by simp only [vType, if_neg h, if_neg hb]
theorem vType_two {r : Nat} {n : Int} {f : F} (h : len f = 2) (hn : n = 0) : vType (r + 1) n f = (vType r (num f 0) (kid f 0)).bind fun a => (vType r (num f 1) (kid f 1)).bind fun b => some (two 0 a 0 b) := by
  simp only [vType]
  rw [if_neg (by omega), if_pos ⟨h, hn⟩]

set_option maxRecDepth 100000 in
set_option maxHeartbeats 2000000 in
theorem valTypeIn_any : ∀ (r : Nat) (n : Int) (f : F) (a : Option Addr) (cap lo : Nat) (w : World), r ≤ 100 → VA w lo f a →
    Calls Tryz.prog 78 #[.agg #[.int .i64 n, .slice a (len f) cap], .int .i64 r] w fun e w' => ∃ a' c', e = .returned (.tuple #[.agg #[.slice a' (len ((vType r n f).getD .nil)) c'], .bool (vType r n f).isSome]) ∧ TA w' w.heap.size ((vType r n f).getD .nil) a' ∧ Ex w w'
  | 0, n, f, a, cap, lo, w, hr, hT => by
    have V : Hid (vType 0 n f = none) := vType_zero n f
    go_enter Tryz.func78, Tryz.ntmps78
    go_wp2_with fail
    refine bodyPost_ret (v := .tuple #[.agg #[.slice none 0 0], .bool false]) (by simp [results, Tryz.results78, go_sem]) rfl ⟨none, 0, by rw [V.out]; rfl, by rw [V.out]; exact TA_nil _ _ _, ?_⟩
    exact (Ex.new _ _).alloc _
  | r + 1, n, f, a, cap, lo, w, hr, hT => by
    by_cases h0 : len f = 0
    · have h0' : ((len f : Int) == 0) = true := by simp [h0]
      have V' : Hid (vType (r + 1) n f = if 0 ≤ n ∧ n ≤ 9999 then some .nil else none) := vType_num h0
      by_cases hn0 : n < 0
      · have V : Hid (vType (r + 1) n f = none) := by show _ = _; rw [V'.out, if_neg (by omega)]
        have d0 : decide (0 ≤ n) = false := by simp; omega
        clear hn0
        go_enter Tryz.func78, Tryz.ntmps78
        go_wp2_with fail
        go_region
        go_wp2_with fail
        refine bodyPost_ret (v := .tuple #[.agg #[.slice none 0 0], .bool false]) (by simp [results, Tryz.results78, go_sem]) rfl ⟨none, 0, by rw [V.out]; rfl, by rw [V.out]; exact TA_nil _ _ _, ?_⟩
        exact ((Ex.new _ _).alloc _).drew
      · have d0 : decide (0 ≤ n) = true := by simp; omega
        by_cases hn1 : n ≤ 9999
        · have V : Hid (vType (r + 1) n f = some .nil) := by show _ = _; rw [V'.out, if_pos (by omega)]
          have d1 : decide (n ≤ 9999) = true := by simp; omega
          clear hn0 hn1
          go_enter Tryz.func78, Tryz.ntmps78
          go_wp2_with fail
          go_region
          go_wp2_with fail
          refine bodyPost_ret (v := .tuple #[.agg #[.slice none 0 0], .bool true]) (by simp [results, Tryz.results78, go_sem]) rfl ⟨none, 0, by rw [V.out]; rfl, by rw [V.out]; exact TA_nil _ _ _, ?_⟩
          exact ((Ex.new _ _).alloc _).drew
        · have V : Hid (vType (r + 1) n f = none) := by show _ = _; rw [V'.out, if_neg (by omega)]
          have d1 : decide (n ≤ 9999) = false := by simp; omega
          clear hn0 hn1
          go_enter Tryz.func78, Tryz.ntmps78
          go_wp2_with fail
          go_region
          go_wp2_with fail
          refine bodyPost_ret (v := .tuple #[.agg #[.slice none 0 0], .bool false]) (by simp [results, Tryz.results78, go_sem]) rfl ⟨none, 0, by rw [V.out]; rfl, by rw [V.out]; exact TA_nil _ _ _, ?_⟩
          exact ((Ex.new _ _).alloc _).drew
    · have h0' : ((len f : Int) == 0) = false := by simp [h0]
      by_cases hb : ¬ (len f = 2 ∧ n = 0)
      · have V : Hid (vType (r + 1) n f = none) := vType_bad h0 hb
        by_cases h2 : len f = 2
        · have hn : ¬ n = 0 := fun h => hb ⟨h2, h⟩
          have h2' : ((len f : Int) != 2) = false := by simp [h2]
          have hn' : (n != 0) = true := by simp [hn]
          clear h2 hb
          go_enter Tryz.func78, Tryz.ntmps78
          go_wp2_with fail
          refine bodyPost_ret (v := .tuple #[.agg #[.slice none 0 0], .bool false]) (by simp [results, Tryz.results78, go_sem]) rfl ⟨none, 0, by rw [V.out]; rfl, by rw [V.out]; exact TA_nil _ _ _, ?_⟩
          exact ((Ex.new _ _).alloc _)
        · have h2' : ((len f : Int) != 2) = true := by simp; omega
          clear hb
          go_enter Tryz.func78, Tryz.ntmps78
          go_wp2_with fail
          refine bodyPost_ret (v := .tuple #[.agg #[.slice none 0 0], .bool false]) (by simp [results, Tryz.results78, go_sem]) rfl ⟨none, 0, by rw [V.out]; rfl, by rw [V.out]; exact TA_nil _ _ _, ?_⟩
          exact ((Ex.new _ _).alloc _)
      · have hb' : len f = 2 ∧ n = 0 := Classical.not_not.mp hb
        obtain ⟨h2, hn⟩ := hb'
        obtain ⟨b, o, a0, a1, k0, k1, rfl, hlo, hbs, n0, c0, n1, c1, t0, t1⟩ := VA_pair hT h2
        obtain ⟨o0, hv0⟩ : ∃ o0, vType r (num f 0) (kid f 0) = o0 := ⟨_, rfl⟩
        obtain ⟨o1, hv1⟩ : ∃ o1, vType r (num f 1) (kid f 1) = o1 := ⟨_, rfl⟩
        have V : Hid (vType (r + 1) n f = o0.bind fun a => o1.bind fun b => some (two 0 a 0 b)) := by
          show _ = _
          rw [vType_two h2 hn, hv0, hv1]
        have I0 : Hid (∀ w', Ex w w' → Calls Tryz.prog 78 #[.agg #[.int .i64 (num f 0), .slice a0 (len (kid f 0)) k0], .int .i64 r] w' fun e w'' => ∃ a' c', e = .returned (.tuple #[.agg #[.slice a' (len (o0.getD .nil)) c'], .bool o0.isSome]) ∧ TA w'' w'.heap.size (o0.getD .nil) a' ∧ Ex w' w'') := fun w' h => by
          have := valTypeIn_any r (num f 0) (kid f 0) a0 k0 lo w' (by omega) (VA_below t0 h)
          rw [hv0] at this; exact this
        have I1 : Hid (∀ w', Ex w w' → Calls Tryz.prog 78 #[.agg #[.int .i64 (num f 1), .slice a1 (len (kid f 1)) k1], .int .i64 r] w' fun e w'' => ∃ a' c', e = .returned (.tuple #[.agg #[.slice a' (len (o1.getD .nil)) c'], .bool o1.isSome]) ∧ TA w'' w'.heap.size (o1.getD .nil) a' ∧ Ex w' w'') := fun w' h => by
          have := valTypeIn_any r (num f 1) (kid f 1) a1 k1 lo w' (by omega) (VA_below t1 h)
          rw [hv1] at this; exact this
        subst hn
        rw [h2]
        clear hv0 hv1 hb h0 h0' t0 t1 hT h2
        go_enter Tryz.func78, Tryz.ntmps78
        go_wp2_with fail
        refine (I0.out _ ((Ex.new _ _).alloc _)).mono ?_
        rintro e w1 ⟨a2, c2, rfl, ht2, hb2⟩
        have rb : w1.heap[w.heap.size + 1]? = some (.cells #[.slice none 0 0] 97 (0, 0)) := hb2.blk (by have := heap_alloc_new (w.alloc (.cells #[.int .i64 0, .slice (some ⟨b, o, none⟩) 2 cap] 55)) (.cells #[.slice none 0 0] 97); rwa [World.size_alloc] at this)
        have q1 := cell_of_one rb
        have q2 := free_of_one rb
        have q3 : w1.cell? ⟨w.heap.size, 1, none⟩ = some (.slice (some ⟨b, o, none⟩) 2 cap) := hb2.at (by simp)
        have x1 : Ex w w1 := ((Ex.new _ _).alloc _).trans hb2
        have z1 : w.heap.size + 1 < w1.heap.size := lt_of_block rb
        have z0 : w.heap.size < w1.heap.size := by omega
        cases o0 with
        | none =>
          simp only [Option.getD_none, Option.isSome_none, len] at *
          go_wp2_with fail
          have hres : ((w1.setCell ⟨w.heap.size + 1, 0, none⟩ (.slice none 0 0)).alloc (.cells #[.slice a2 0 c2] 97)).cell? ⟨w.heap.size + 1, 0, none⟩ = some (.slice none 0 0) := by
            rw [World.cell?_alloc_lt _ _ _ (by rw [World.size_setCell]; exact z1)]; exact World.cell?_setCell_same _ _ _ q1
          refine bodyPost_ret (v := .tuple #[.agg #[.slice none 0 0], .bool false]) (by simp [results, Tryz.results78, go_sem, hres]) rfl ⟨none, 0, by rw [V.out]; rfl, by rw [V.out]; exact TA_nil _ _ _, (x1.set ?_ _).alloc _⟩
          exact Nat.le_succ _
        | some g0 =>
          simp only [Option.getD_some, Option.isSome_some] at *
          have T2 : Hid (TA w1 (w.heap.size + 2) g0 a2) := by rw [World.size_alloc, World.size_alloc] at ht2; exact ht2
          have p1 := x1.at n1
          have p2 := x1.at c1
          have zb := x1.lt hbs
          clear ht2 n0 n1 c0 c1
          go_wp2_with fail
          refine (I1.out _ (x1.alloc _)).mono ?_
          rintro e w2 ⟨a3, c3, rfl, ht3, hb3⟩
          have rb2 := hb3.blk ((Ex.new _ _).blk rb)
          have q4 := cell_of_one rb2
          have q5 := free_of_one rb2
          have q6 : w2.cell? ⟨w1.heap.size, 0, none⟩ = some (.slice a2 (len g0) c2) := hb3.at (World.cell?_alloc_new _ _ _ _)
          have x2 : Ex w w2 := (x1.alloc _).trans hb3
          have z2 : w.heap.size + 1 < w2.heap.size := lt_of_block rb2
          have z3 : w1.heap.size < w2.heap.size := World.block_lt_of_cell? _ _ q6
          have z4 : w.heap.size < w2.heap.size := by omega
          have T2' : Hid (TA w2 (w.heap.size + 2) g0 a2) := TA_below T2.out ((Ex.new _ _).trans hb3)
          clear q1 q2 q3 p1 p2
          cases o1 with
          | none =>
            simp only [Option.getD_none, Option.isSome_none, len] at *
            go_wp2_with fail
            have hres : ((w2.setCell ⟨w.heap.size + 1, 0, none⟩ (.slice none 0 0)).alloc (.cells #[.slice a3 0 c3] 97)).cell? ⟨w.heap.size + 1, 0, none⟩ = some (.slice none 0 0) := by
              rw [World.cell?_alloc_lt _ _ _ (by rw [World.size_setCell]; exact z2)]; exact World.cell?_setCell_same _ _ _ q4
            refine bodyPost_ret (v := .tuple #[.agg #[.slice none 0 0], .bool false]) (by simp [results, Tryz.results78, go_sem, hres]) rfl ⟨none, 0, by rw [V.out]; rfl, by rw [V.out]; exact TA_nil _ _ _, (x2.set ?_ _).alloc _⟩
            exact Nat.le_succ _
          | some g1 =>
            simp only [Option.getD_some, Option.isSome_some] at *
            have T3 : Hid (TA w2 (w.heap.size + 2) g1 a3) := TA_lo ht3 (by rw [World.size_alloc]; omega)
            clear ht3
            go_wp2_with fail
            have hsz : ((w2.setCell ⟨w.heap.size + 1, 0, none⟩ (.slice (some ⟨w2.heap.size + 1, 0, none⟩) 2 2)).alloc (.cells #[.slice a3 (len g1) c3] 97)).heap.size = w2.heap.size + 1 := by rw [World.size_alloc, World.size_setCell]
            have e0 := World.cell?_alloc_new ((w2.setCell ⟨w.heap.size + 1, 0, none⟩ (.slice (some ⟨w2.heap.size + 1, 0, none⟩) 2 2)).alloc (.cells #[.slice a3 (len g1) c3] 97)) #[.slice a2 (len g0) c2, .slice a3 (len g1) c3] 97 0
            have e1 := World.cell?_alloc_new ((w2.setCell ⟨w.heap.size + 1, 0, none⟩ (.slice (some ⟨w2.heap.size + 1, 0, none⟩) 2 2)).alloc (.cells #[.slice a3 (len g1) c3] 97)) #[.slice a2 (len g0) c2, .slice a3 (len g1) c3] 97 1
            rw [hsz] at e0 e1
            have kp : Kp (w.heap.size + 2) w2 (((w2.setCell ⟨w.heap.size + 1, 0, none⟩ (.slice (some ⟨w2.heap.size + 1, 0, none⟩) 2 2)).alloc (.cells #[.slice a3 (len g1) c3] 97)).alloc (.cells #[.slice a2 (len g0) c2, .slice a3 (len g1) c3] 97)) := (((Kp.refl _ _).set (Or.inl (by show w.heap.size + 1 < w.heap.size + 2; omega)) _).alloc _).alloc _
            have hres : (((w2.setCell ⟨w.heap.size + 1, 0, none⟩ (.slice (some ⟨w2.heap.size + 1, 0, none⟩) 2 2)).alloc (.cells #[.slice a3 (len g1) c3] 97)).alloc (.cells #[.slice a2 (len g0) c2, .slice a3 (len g1) c3] 97)).cell? ⟨w.heap.size + 1, 0, none⟩ = some (.slice (some ⟨w2.heap.size + 1, 0, none⟩) 2 2) := by
              rw [World.cell?_alloc_lt _ _ _ (by rw [hsz]; show w.heap.size + 1 < w2.heap.size + 1; omega), World.cell?_alloc_lt _ _ _ (by rw [World.size_setCell]; exact z2)]; exact World.cell?_setCell_same _ _ _ q4
            refine bodyPost_ret (v := .tuple #[.agg #[.slice (some ⟨w2.heap.size + 1, 0, none⟩) 2 2], .bool true]) (by simp [results, Tryz.results78, go_sem, hres]) rfl ⟨some ⟨w2.heap.size + 1, 0, none⟩, 2, by rw [V.out]; rfl, by rw [V.out]; exact TA_two (f := two 0 g0 0 g1) (k0 := c2) (k1 := c3) rfl (by omega) e0 e1 (TA_lo (TA_kp T2'.out kp) (by omega)) (TA_lo (TA_kp T3.out kp) (by omega)), ((x2.set (Nat.le_succ _) _).alloc _).alloc _⟩

end Go.Proofs.YtldbmlojgakieaaGreatDoor

namespace Go.Proofs.YtldbmlojgakieaaGreatDoor

open Go.RowKit Go.Deep

attribute [local go_sem ↓] Go.wp_at_zero Go.wp_at_succ

theorem eqT_two {f g : F} (hf : len f = 2) (hg : len g = 2) : eqT f g = (eqT (kid f 0) (kid g 0) && eqT (kid f 1) (kid g 1)) := by
  cases h0 : eqT (kid f 0) (kid g 0)
  · rw [eqT_bad f g 0 (by omega) h0]; rfl
  · cases h1 : eqT (kid f 1) (kid g 1)
    · rw [eqT_bad f g 1 (by omega) h1]; rfl
    · refine eqT_good f g (by omega) fun i hi => ?_
      have : i = 0 ∨ i = 1 := by omega
      rcases this with rfl | rfl
      · exact h0
      · exact h1

theorem eqT_zero {f g : F} (hf : len f = 0) (hg : len g = 0) : eqT f g = true := eqT_good f g (by omega) fun i hi => by omega

set_option linter.unusedSimpArgs false in
set_option maxRecDepth 100000 in
set_option maxHeartbeats 2000000 in
theorem typeSame_any : ∀ (r : Nat) (f g : F) (a a' : Option Addr) (c c' lo lo' : Nat) (w : World), fits r f = true → fits r g = true → TA w lo f a → TA w lo' g a' →
    Calls Tryz.prog 151 #[.agg #[.slice a (len f) c], .agg #[.slice a' (len g) c']] w fun e w' => e = .returned (.bool (eqT f g)) ∧ Ex w w'
  | 0, f, g, a, a', c, c', lo, lo', w, hf, hg, hT, hT' => by simp [fits] at hf
  | r + 1, f, g, a, a', c, c', lo, lo', w, hf, hg, hT, hT' => by
    by_cases h0 : len f = 0
    · have h0' : ((len f : Int) == 0) = true := by simp [h0]
      have R : Hid (((len f : Int) == (len g : Int)) = eqT f g) := by
        show _ = _
        by_cases h1 : len g = 0
        · rw [eqT_zero h0 h1]; simp [h0, h1]
        · rw [eqT_len f g (by omega)]; simp; omega
      clear hf hg hT hT' h0
      go_enter Tryz.func151, Tryz.ntmps151
      go_wp2_with fail
      go_ret
      exact ⟨ret_b R.out, (Ex.new _ _).alloc _⟩
    · have h0' : ((len f : Int) == 0) = false := by simp [h0]
      by_cases h1 : len g = 0
      · have h1' : ((len g : Int) == 0) = true := by simp [h1]
        have R : Hid (((len f : Int) == (len g : Int)) = eqT f g) := by
          show _ = _
          rw [eqT_len f g (by omega)]; simp; omega
        clear hf hg hT hT' h0 h1
        go_enter Tryz.func151, Tryz.ntmps151
        go_wp2_with fail
        go_ret
        exact ⟨ret_b R.out, (Ex.new _ _).alloc _⟩
      · have h2 : len f = 2 := by have := fits_len hf; omega
        have h2g : len g = 2 := by have := fits_len hg; omega
        rw [fits_two h2, Bool.and_eq_true] at hf
        rw [fits_two h2g, Bool.and_eq_true] at hg
        obtain ⟨b, o, rfl, hlo, hbs, hk⟩ := TA_at hT (by omega)
        obtain ⟨a0, c0, hc0, ht0⟩ := hk 0 (by omega)
        obtain ⟨a1, c1, hc1, ht1⟩ := hk 1 (by omega)
        rw [Nat.add_zero] at hc0
        obtain ⟨b', o', rfl, hlo', hbs', hk'⟩ := TA_at hT' (by omega)
        obtain ⟨a0', c0', hc0', ht0'⟩ := hk' 0 (by omega)
        obtain ⟨a1', c1', hc1', ht1'⟩ := hk' 1 (by omega)
        rw [Nat.add_zero] at hc0'
        have E0 : Hid (Ex w ((w.alloc (.cells #[.slice (some ⟨b, o, none⟩) 2 c] 97)).alloc (.cells #[.slice (some ⟨b', o', none⟩) 2 c'] 97))) := (Ex.new _ _).alloc _
        have KS : Hid (∀ w', Ex ((w.alloc (.cells #[.slice (some ⟨b, o, none⟩) 2 c] 97)).alloc (.cells #[.slice (some ⟨b', o', none⟩) 2 c'] 97)) w' → (Ex ((w.alloc (.cells #[.slice (some ⟨b, o, none⟩) 2 c] 97)).alloc (.cells #[.slice (some ⟨b', o', none⟩) 2 c'] 97)) w' ∧ w'.cell? ⟨w.heap.size, 0, none⟩ = some (.slice (some ⟨b, o, none⟩) 2 c) ∧ w'.cell? ⟨w.heap.size + 1, 0, none⟩ = some (.slice (some ⟨b', o', none⟩) 2 c') ∧ w'.cell? ⟨b, o, none⟩ = some (.slice a0 (len (kid f 0)) c0) ∧ w'.cell? ⟨b, o + 1, none⟩ = some (.slice a1 (len (kid f 1)) c1) ∧ w'.cell? ⟨b', o', none⟩ = some (.slice a0' (len (kid g 0)) c0') ∧ w'.cell? ⟨b', o' + 1, none⟩ = some (.slice a1' (len (kid g 1)) c1'))) := fun w' h => ⟨h, Ex.at h (by simp), Ex.at h (by simp), Ex.at h (Ex.at ((Ex.new _ _).alloc _) hc0), Ex.at h (Ex.at ((Ex.new _ _).alloc _) hc1), Ex.at h (Ex.at ((Ex.new _ _).alloc _) hc0'), Ex.at h (Ex.at ((Ex.new _ _).alloc _) hc1')⟩
        have R : Hid (eqT f g = (eqT (kid f 0) (kid g 0) && eqT (kid f 1) (kid g 1))) := eqT_two h2 h2g
        have J0 : Hid (∀ w', Ex w w' → Calls Tryz.prog 151 #[.agg #[.slice a0 (len (kid f 0)) c0], .agg #[.slice a0' (len (kid g 0)) c0']] w' fun e w'' => e = .returned (.bool (eqT (kid f 0) (kid g 0))) ∧ Ex w' w'') := fun w' h => typeSame_any r (kid f 0) (kid g 0) a0 a0' c0 c0' lo lo' w' hf.1 hg.1 (TA_below ht0 h) (TA_below ht0' h)
        have I1 : Hid (∀ w', Ex w w' → Calls Tryz.prog 151 #[.agg #[.slice a1 (len (kid f 1)) c1], .agg #[.slice a1' (len (kid g 1)) c1']] w' fun e w'' => e = .returned (.bool (eqT (kid f 1) (kid g 1))) ∧ Ex w' w'') := fun w' h => typeSame_any r (kid f 1) (kid g 1) a1 a1' c1 c1' lo lo' w' hf.2 hg.2 (TA_below ht1 h) (TA_below ht1' h)
        generalize eqT f g = res at *
        generalize eqT (kid f 0) (kid g 0) = x0 at *
        generalize eqT (kid f 1) (kid g 1) = x1 at *
        rw [h2, h2g]
        clear hk hk' hT hT' ht0 ht1 ht0' ht1' hf hg h2 h2g h0 h1 h0'
        cases x0
        · have I0 : Hid (∀ w', Ex w w' → Calls Tryz.prog 151 #[.agg #[.slice a0 (len (kid f 0)) c0], .agg #[.slice a0' (len (kid g 0)) c0']] w' fun e w'' => e = .returned (.bool false) ∧ Ex w' w'') := J0
          go_enter Tryz.func151, Tryz.ntmps151
          go_wp2_with fail
          refine wp_region_held_drew (S := fun w' => Ex ((w.alloc (.cells #[.slice (some ⟨b, o, none⟩) 2 c] 97)).alloc (.cells #[.slice (some ⟨b', o', none⟩) 2 c'] 97)) w' ∧ w'.cell? ⟨w.heap.size, 0, none⟩ = some (.slice (some ⟨b, o, none⟩) 2 c) ∧ w'.cell? ⟨w.heap.size + 1, 0, none⟩ = some (.slice (some ⟨b', o', none⟩) 2 c') ∧ w'.cell? ⟨b, o, none⟩ = some (.slice a0 (len (kid f 0)) c0) ∧ w'.cell? ⟨b, o + 1, none⟩ = some (.slice a1 (len (kid f 1)) c1) ∧ w'.cell? ⟨b', o', none⟩ = some (.slice a0' (len (kid g 0)) c0') ∧ w'.cell? ⟨b', o' + 1, none⟩ = some (.slice a1' (len (kid g 1)) c1')) (by kernel_rfl) (KS.out _ (Ex.refl _).drew) (fun hHeld => ?_)
          refine wpAnyH_take (i := 0) (v := ?_) rfl (by kernel_rfl) (by kernel_rfl) (by kernel_rfl) (fun _ _ _ h => h) (Or.inl ⟨by rfl, ?_⟩) (by assumption) ?_
          rotate_left
          · (intro w' hSw; (try dsimp only at hSw); go_simp) <;> with_reducible rfl
          change wpAnyH Tryz.prog _ _ _ _ _ _ (Act.put _ (some 22) _) _
          (try simp only [Act.put, List.setIfInBounds_toArray, List.set_cons_zero, List.set_cons_succ])
          refine wpAnyH_take (i := 1) (v := ?_) rfl (by kernel_rfl) (by kernel_rfl) (by kernel_rfl) (fun _ _ _ h => h) (Or.inl ⟨by rfl, ?_⟩) (by assumption) ?_
          rotate_left
          · (intro w' hSw; (try dsimp only at hSw); go_simp) <;> with_reducible rfl
          change wpAnyH Tryz.prog _ _ _ _ _ _ (Act.put _ (some 23) _) _
          (try simp only [Act.put, List.setIfInBounds_toArray, List.set_cons_zero, List.set_cons_succ])
          refine wpAnyH_take (i := 2) (v := ?_) rfl (by kernel_rfl) (by kernel_rfl) (by kernel_rfl) (fun _ _ _ h => h) (Or.inl ⟨by rfl, ?_⟩) (by assumption) ?_
          rotate_left
          · (intro w' hSw; (try dsimp only at hSw); go_simp) <;> with_reducible rfl
          change wpAnyH Tryz.prog _ _ _ _ _ _ (Act.put _ (some 24) _) _
          (try simp only [Act.put, List.setIfInBounds_toArray, List.set_cons_zero, List.set_cons_succ])
          refine wpAnyH_take (i := 3) (v := ?_) rfl (by kernel_rfl) (by kernel_rfl) (by kernel_rfl) (fun _ _ _ h => h) (Or.inl ⟨by rfl, ?_⟩) (by assumption) ?_
          rotate_left
          · (intro w' hSw; (try dsimp only at hSw); go_simp) <;> with_reducible rfl
          change wpAnyH Tryz.prog _ _ _ _ _ _ (Act.put _ (some 25) _) _
          (try simp only [Act.put, List.setIfInBounds_toArray, List.set_cons_zero, List.set_cons_succ])
          refine wpAnyH_take (i := 4) (v := ?_) rfl (by kernel_rfl) (by kernel_rfl) (by kernel_rfl) (fun _ _ _ h => h) (Or.inl ⟨by rfl, ?_⟩) (by assumption) ?_
          rotate_left
          · (intro w' hSw; (try dsimp only at hSw); go_simp) <;> with_reducible rfl
          change wpAnyH Tryz.prog _ _ _ _ _ _ (Act.put _ (some 26) _) _
          (try simp only [Act.put, List.setIfInBounds_toArray, List.set_cons_zero, List.set_cons_succ])
          refine wpAnyH_take (i := 5) (v := ?_) rfl (by kernel_rfl) (by kernel_rfl) (by kernel_rfl) (fun _ _ _ h => h) (Or.inl ⟨by rfl, ?_⟩) (by assumption) ?_
          rotate_left
          · (intro w' hSw; (try dsimp only at hSw); go_simp) <;> with_reducible rfl
          change wpAnyH Tryz.prog _ _ _ _ _ _ (Act.put _ (some 27) _) _
          (try simp only [Act.put, List.setIfInBounds_toArray, List.set_cons_zero, List.set_cons_succ])
          refine wpAnyH_take (i := 6) (v := ?_) rfl (by kernel_rfl) (by kernel_rfl) (by kernel_rfl) (fun _ _ _ h => h) (Or.inl ⟨by rfl, ?_⟩) (by assumption) ?_
          rotate_left
          · (intro w' hSw; (try dsimp only at hSw); go_simp) <;> with_reducible rfl
          change wpAnyH Tryz.prog _ _ _ _ _ _ (Act.put _ (some 28) _) _
          (try simp only [Act.put, List.setIfInBounds_toArray, List.set_cons_zero, List.set_cons_succ])
          refine wpAnyH_take (i := 7) (v := ?_) rfl (by kernel_rfl) (by kernel_rfl) (by kernel_rfl) (fun _ _ _ h => h) (Or.inl ⟨by rfl, ?_⟩) (by assumption) ?_
          rotate_left
          · (intro w' hSw; (try dsimp only at hSw); go_simp) <;> with_reducible rfl
          change wpAnyH Tryz.prog _ _ _ _ _ _ (Act.put _ (some 29) _) _
          (try simp only [Act.put, List.setIfInBounds_toArray, List.set_cons_zero, List.set_cons_succ])
          refine wpAnyH_ready (rs := [8]) (by kernel_rfl) (by simp) ?_
          refine AllReadyH.cons (i := 8) rfl (fun K hK => ?_) AllReadyH.nil
          go_simp
          refine (I0.out _ (Ex.trans E0.out (And.left hHeld))).mono ?_
          rintro e w1 ⟨rfl, hb0⟩
          have hx1 := Ex.trans (And.left hHeld) hb0
          go_wp2_with fail
          refine hK.out _ _ ?_ (fun hHeld1 => ?_)
          · exact KS.out _ hx1
          clear hK hHeld
          (try simp only [Act.put, List.setIfInBounds_toArray, List.set_cons_zero, List.set_cons_succ])
          refine wpAnyH_take (i := 9) (v := ?_) rfl (by kernel_rfl) (by kernel_rfl) (by kernel_rfl) (fun _ _ _ h => h) (Or.inl ⟨by rfl, ?_⟩) (by assumption) ?_
          rotate_left
          · (intro w' hSw; (try dsimp only at hSw); go_simp) <;> with_reducible rfl
          change wpAnyH Tryz.prog _ _ _ _ _ _ (Act.put _ (some 31) _) _
          (try simp only [Act.put, List.setIfInBounds_toArray, List.set_cons_zero, List.set_cons_succ])
          refine wpAnyH_take (i := 10) (v := undef) rfl (by kernel_rfl) (by kernel_rfl) (by kernel_rfl) (fun _ _ _ h => h) (Or.inr ⟨by kernel_rfl, rfl⟩) (by assumption) ?_
          change wpAnyH Tryz.prog _ _ _ _ _ _ (Act.put _ (some 32) _) _
          (try simp only [Act.put, List.setIfInBounds_toArray, List.set_cons_zero, List.set_cons_succ])
          refine wpAnyH_take (i := 11) (v := undef) rfl (by kernel_rfl) (by kernel_rfl) (by kernel_rfl) (fun _ _ _ h => h) (Or.inr ⟨by kernel_rfl, rfl⟩) (by assumption) ?_
          change wpAnyH Tryz.prog _ _ _ _ _ _ (Act.put _ (some 33) _) _
          (try simp only [Act.put, List.setIfInBounds_toArray, List.set_cons_zero, List.set_cons_succ])
          refine wpAnyH_take (i := 12) (v := undef) rfl (by kernel_rfl) (by kernel_rfl) (by kernel_rfl) (fun _ _ _ h => h) (Or.inr ⟨by kernel_rfl, rfl⟩) (by assumption) ?_
          change wpAnyH Tryz.prog _ _ _ _ _ _ (Act.put _ (some 34) _) _
          (try simp only [Act.put, List.setIfInBounds_toArray, List.set_cons_zero, List.set_cons_succ])
          refine wpAnyH_take (i := 13) (v := undef) rfl (by kernel_rfl) (by kernel_rfl) (by kernel_rfl) (fun _ _ _ h => h) (Or.inr ⟨by kernel_rfl, rfl⟩) (by assumption) ?_
          change wpAnyH Tryz.prog _ _ _ _ _ _ (Act.put _ (some 35) _) _
          (try simp only [Act.put, List.setIfInBounds_toArray, List.set_cons_zero, List.set_cons_succ])
          refine wpAnyH_take (i := 14) (v := undef) rfl (by kernel_rfl) (by kernel_rfl) (by kernel_rfl) (fun _ _ _ h => h) (Or.inr ⟨by kernel_rfl, rfl⟩) (by assumption) ?_
          change wpAnyH Tryz.prog _ _ _ _ _ _ (Act.put _ (some 36) _) _
          (try simp only [Act.put, List.setIfInBounds_toArray, List.set_cons_zero, List.set_cons_succ])
          refine wpAnyH_take (i := 15) (v := undef) rfl (by kernel_rfl) (by kernel_rfl) (by kernel_rfl) (fun _ _ _ h => h) (Or.inr ⟨by kernel_rfl, rfl⟩) (by assumption) ?_
          change wpAnyH Tryz.prog _ _ _ _ _ _ (Act.put _ (some 37) _) _
          (try simp only [Act.put, List.setIfInBounds_toArray, List.set_cons_zero, List.set_cons_succ])
          refine wpAnyH_take (i := 16) (v := undef) rfl (by kernel_rfl) (by kernel_rfl) (by kernel_rfl) (fun _ _ _ h => h) (Or.inr ⟨by kernel_rfl, rfl⟩) (by assumption) ?_
          change wpAnyH Tryz.prog _ _ _ _ _ _ (Act.put _ (some 38) _) _
          (try simp only [Act.put, List.setIfInBounds_toArray, List.set_cons_zero, List.set_cons_succ])
          refine wpAnyH_take (i := 17) (v := undef) rfl (by kernel_rfl) (by kernel_rfl) (by kernel_rfl) (fun _ _ _ h => h) (Or.inr ⟨by kernel_rfl, rfl⟩) (by assumption) ?_
          change wpAnyH Tryz.prog _ _ _ _ _ _ (Act.put _ (some 39) _) _
          (try simp only [Act.put, List.setIfInBounds_toArray, List.set_cons_zero, List.set_cons_succ])
          refine wpAnyH_take (i := 18) (v := undef) rfl (by kernel_rfl) (by kernel_rfl) (by kernel_rfl) (fun _ _ _ h => h) (Or.inr ⟨by kernel_rfl, rfl⟩) (by assumption) ?_
          change wpAnyH Tryz.prog _ _ _ _ _ _ (Act.put _ (some 40) _) _
          (try simp only [Act.put, List.setIfInBounds_toArray, List.set_cons_zero, List.set_cons_succ])
          refine wpAnyH_take (i := 19) (v := ?_) rfl (by kernel_rfl) (by kernel_rfl) (by kernel_rfl) (fun _ _ _ h => h) (Or.inl ⟨by rfl, ?_⟩) (by assumption) ?_
          rotate_left
          · (intro w' hSw; (try dsimp only at hSw); go_simp) <;> with_reducible rfl
          change wpAnyH Tryz.prog _ _ _ _ _ _ (Act.put _ (some 41) _) _
          (try simp only [Act.put, List.setIfInBounds_toArray, List.set_cons_zero, List.set_cons_succ])
          refine wpAnyH_take (i := 20) (v := ?_) rfl (by kernel_rfl) (by kernel_rfl) (by kernel_rfl) (fun _ _ _ h => h) (Or.inl ⟨by rfl, ?_⟩) (by assumption) ?_
          rotate_left
          · (intro w' hSw; (try dsimp only at hSw); go_simp) <;> with_reducible rfl
          change wpAnyH Tryz.prog _ _ _ _ _ _ (Act.put _ (some 4) _) _
          (try simp only [Act.put, List.setIfInBounds_toArray, List.set_cons_zero, List.set_cons_succ])
          refine wpAnyH_done (by kernel_rfl) ?_ _
          go_wp2_with fail
          go_ret
          exact ⟨by rw [R.out]; rfl, E0.out.trans hx1⟩
        · have I0 : Hid (∀ w', Ex w w' → Calls Tryz.prog 151 #[.agg #[.slice a0 (len (kid f 0)) c0], .agg #[.slice a0' (len (kid g 0)) c0']] w' fun e w'' => e = .returned (.bool true) ∧ Ex w' w'') := J0
          go_enter Tryz.func151, Tryz.ntmps151
          go_wp2_with fail
          go_region_held3 (fun w' => Ex ((w.alloc (.cells #[.slice (some ⟨b, o, none⟩) 2 c] 97)).alloc (.cells #[.slice (some ⟨b', o', none⟩) 2 c'] 97)) w' ∧ w'.cell? ⟨w.heap.size, 0, none⟩ = some (.slice (some ⟨b, o, none⟩) 2 c) ∧ w'.cell? ⟨w.heap.size + 1, 0, none⟩ = some (.slice (some ⟨b', o', none⟩) 2 c') ∧ w'.cell? ⟨b, o, none⟩ = some (.slice a0 (len (kid f 0)) c0) ∧ w'.cell? ⟨b, o + 1, none⟩ = some (.slice a1 (len (kid f 1)) c1) ∧ w'.cell? ⟨b', o', none⟩ = some (.slice a0' (len (kid g 0)) c0') ∧ w'.cell? ⟨b', o' + 1, none⟩ = some (.slice a1' (len (kid g 1)) c1')) ((refine KS.out _ ?_; first | exact (Ex.refl _).drew | exact Ex.trans (And.left ‹Ex _ _ ∧ _›) ‹Ex _ _› | exact (And.left ‹Ex _ _ ∧ _›))) (first | (go_at_call_of 151 (Value.slice a0 (len (kid f 0)) c0); refine (I0.out _ (Ex.trans E0.out (And.left ‹Ex _ _ ∧ _›))).mono ?_; rintro e w1 ⟨rfl, hb0⟩) | (go_at_call_of 151 (Value.slice a1 (len (kid f 1)) c1); refine (I1.out _ (Ex.trans E0.out (And.left ‹Ex _ _ ∧ _›))).mono ?_; rintro e w2 ⟨rfl, hb1⟩))
          go_wp2_with fail
          go_ret
          exact ⟨ret_b (by rw [R.out]; rfl), E0.out.trans (And.left ‹Ex _ _ ∧ _›)⟩

end Go.Proofs.YtldbmlojgakieaaGreatDoor


