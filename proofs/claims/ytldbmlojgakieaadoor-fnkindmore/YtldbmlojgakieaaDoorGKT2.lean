/- Walks: names bound, and names that may be bound together. Walks: the program's terms that are ok by names. Walks: what the exact laws do with types. Of which types terms are, without the program; a map of types in memory, and rows of types. Walks: types of terms, by the program: small ones, and the loop. -/
import Derived.Test.YtldbmlojgakieaaDoorGSZ1
import Derived.Test.YtldbmlojgakieaaDoorGW7
import Derived.Deep.AppendLies
namespace Go.Proofs.YtldbmlojgakieaaDoor

open Go.RowKit Go.Deep Go.Maps Go.WideMaps

attribute [local go_sem ↓] Go.wp_at_zero Go.wp_at_succ

theorem take_snoc {p : List ByteArray} {k : Nat} (h : k < p.length) : p.take (k + 1) = p.take k ++ [p.getD k ⟨#[]⟩] := by
  rw [List.take_add_one, List.getElem?_eq_getElem h]
  simp [List.getD, h]

/-- Behind names that were bound. -/
def BindP (mb n : Nat) (ns p : List ByteArray) (w : World) (e : Ending) (w' : World) : Prop := e = .returned (.tuple #[]) ∧ CM w' mb (n + p.length) (ns ++ p) ∧ Fr mb w w'
set_option maxRecDepth 100000 in
set_option maxHeartbeats 2000000 in
theorem bind_any (aa : Option Addr) (al ac mb n : Nat) (ns p : List ByteArray) (xa : Option Addr) (xc : Nat) (w : World) (hC : CM w mb n ns) (hX : ∀ w', Fr mb w w' → XA w' 0 p xa) (hz : XLm p) (hn : n + p.length ≤ 999999) (hns : ns.length + p.length ≤ 999999) :
    Calls Tryd.prog 31 #[.agg #[.slice aa al ac, .map (some mb)], .slice xa p.length xc] w (BindP mb n ns p w) := by
  have hlt := hC.lt
  have N : Hid (Fr mb w (w.alloc (.cells #[.slice aa al ac, .map (some mb)] 70))) := Fr.of_ex (Ex.new _ _) _
  have C : Hid (∀ w', Fr mb (w.alloc (.cells #[.slice aa al ac, .map (some mb)] 70)) w' → w'.cell? ⟨w.heap.size, 1, none⟩ = some (.map (some mb))) := fun w' h => h.at (by show w.heap.size ≠ mb; omega) (by simp)
  have C0 : Hid (CM (w.alloc (.cells #[.slice aa al ac, .map (some mb)] 70)) mb n ns) := hC.ex (Ex.new _ _)
  have X : Hid (∀ w', Fr mb w w' → XA w' 0 p xa) := hX
  have Z : Hid (XLm p) := hz
  clear hC hX hz hlt
  go_enter Tryd.func31, Tryd.ntmps31
  go_wp2_with fail
  go_loopw [5, 8] (fun _ i wr => ∃ k : Nat, k ≤ p.length ∧ i = .int .i64 k ∧ CM wr mb (n + k) (ns ++ p.take k) ∧ Fr mb (w.alloc (.cells #[.slice aa al ac, .map (some mb)] 70)) wr) (fun _ i _ => p.length - (intOf i).toNat)
  case atStart => exact ⟨0, Nat.zero_le _, rfl, by rw [List.take_zero, List.append_nil]; exact C0.out, Fr.refl _ _⟩
  case round =>
    obtain ⟨k, hk, rfl, hCk, hF⟩ := hrel
    have CK : Hid _ := hCk
    have F : Hid (Fr mb (w.alloc (.cells #[.slice aa al ac, .map (some mb)] 70)) wr) := hF
    have cm := C.out wr hF
    clear hF
    by_cases hlt : k < p.length
    · obtain ⟨b, o, rfl, hbs, _, hc⟩ := XA_at (X.out wr (N.out.trans F.out)) (by omega)
      have ck := hc k hlt
      have hsz := Z.out k hlt
      have TS : Hid (p.take (k + 1) = p.take k ++ [p.getD k ⟨#[]⟩]) := take_snoc hlt
      obtain ⟨s, hs⟩ : ∃ s, p.getD k ⟨#[]⟩ = s := ⟨_, rfl⟩
      rw [hs] at ck hsz TS
      clear hc hs
      have hrun := hCk.look hsz
      have hcl := cntN_le (ns ++ p.take k) s
      rw [List.length_append, List.length_take] at hcl
      obtain ⟨c, hce⟩ : ∃ c, cntN (ns ++ p.take k) s = c := ⟨_, rfl⟩
      rw [hce] at hrun hcl
      have HV : Hid (Value.int .i64 ((c : Int) + 1) = Value.int .i64 ((cntN (ns ++ p.take k) s : Int) + 1)) := by show _ = _; rw [hce]
      have hcb : c ≤ 999999 := by omega
      have hl2 : (ns ++ p.take k).length < 1000000 := by rw [List.length_append, List.length_take]; omega
      have L2 : Hid _ := hl2
      have SZ : Hid _ := hsz
      clear hce hCk hcl hl2 hsz
      go_wp2_with (at_mapUpdate; refine wpList_count rfl _ _ _ rfl mb (n + k) (ns ++ p.take k) s SZ.out rfl CK.out (by omega) L2.out rfl HV.out ?_)
      intro w1 hC1 hF1
      have CN : Hid (CM w1 mb (n + (k + 1)) (ns ++ p.take (k + 1))) := by
        show CM _ _ _ _
        rw [TS.out, ← Nat.add_assoc]; first | exact hC1 | (rw [← List.append_assoc]; exact hC1)
      have F1 : Hid (Fr mb (w.alloc (.cells #[.slice aa al ac, .map (some mb)] 70)) w1) := F.out.trans hF1
      clear hC1 hF1 hrun cm ck CK
      go_wp2_with fail
      go_roundw
      case rel => exact ⟨k + 1, by omega, by go_num, CN.out, F1.out⟩
      case measure => simp [intOf]; omega
    · have CE : Hid (CM wr mb (n + p.length) (ns ++ p)) := by
        show CM _ _ _ _
        have e : k = p.length := by omega
        have := CK.out
        rw [e, List.take_length] at this; exact this
      clear hCk cm
      go_wp2_with fail
      go_end0
      exact ⟨rfl, CE.out, N.out.trans F.out⟩

/-- Names that may be bound together. -/
def namesB (nm : List ByteArray) : Bool := decide (nm.length ≤ 60) && uniqB nm

set_option maxRecDepth 100000 in
set_option maxHeartbeats 2000000 in
theorem namesOk_any (p : List ByteArray) (xa : Option Addr) (xc : Nat) (w : World) (hz : XLm p) (hX : XA w 0 p xa) :
    Calls Tryd.prog 29 #[.slice xa p.length xc] w fun e w' => e = .returned (.bool (namesB p)) ∧ Ex w w' := by
  have X : Hid (∀ w', Ex w w' → XA w' 0 p xa) := fun _ h => XA_below hX h
  have Z : Hid (XLm p) := hz
  clear hX hz
  obtain ⟨R, hR⟩ : ∃ R, R = namesB p := ⟨_, rfl⟩
  have RR : Hid (R = namesB p) := hR
  rw [← hR]
  clear hR
  by_cases h60 : 60 < p.length
  · have HR : Hid (R = false) := RR.out.trans (by rw [namesB, decide_eq_false (by omega)]; rfl)
    have d1 : decide ((60 : Int) < (p.length : Int)) = true := decide_eq_true (by omega)
    go_enter Tryd.func29, Tryd.ntmps29
    go_wp2_with fail
    go_ret
    exact ⟨ret_b HR.out.symm, Ex.refl _⟩
  have R2 : Hid (R = uniqB p) := RR.out.trans (by rw [namesB, decide_eq_true (by omega)]; rfl)
  have d1 : decide ((60 : Int) < (p.length : Int)) = false := decide_eq_false (by omega)
  have hmm := @run_makeMap Tryd.prog
  clear RR
  go_enter Tryd.func29, Tryd.ntmps29
  go_wp2_with fail
  go_loopw [5, 12] (fun _ i wr => ∃ k : Nat, k ≤ p.length ∧ i = .int .i64 k ∧ CM wr w.heap.size k (p.take k) ∧ (∀ j, j < k → uniqAt p j = true) ∧ Ex w wr) (fun _ i _ => p.length - (intOf i).toNat)
  case atStart => exact ⟨0, Nat.zero_le _, rfl, by rw [List.take_zero]; exact CM_made w, fun j hj => by omega, Ex.new _ _⟩
  case round =>
    obtain ⟨k, hk, rfl, hCk, hall, hx⟩ := hrel
    have CK : Hid _ := hCk
    have A : Hid (∀ j, j < k → uniqAt p j = true) := hall
    have E : Hid (Ex w wr) := hx
    clear hall hx hmm
    by_cases hlt : k < p.length
    · obtain ⟨b, o, rfl, hbs, _, hc⟩ := XA_at (X.out wr E.out) (by omega)
      have ck := hc k hlt
      have hsz := Z.out k hlt
      have TS : Hid (p.take (k + 1) = p.take k ++ [p.getD k ⟨#[]⟩]) := take_snoc hlt
      have U : Hid (uniqAt p k = true → ∀ j, j < k + 1 → uniqAt p j = true) := fun h => upto_succ A.out h
      have V : Hid (uniqAt p k = false → R = false) := fun h => R2.out.trans (uniqB_no hlt h)
      have UA : Hid (uniqAt p k = (wordB (p.getD k ⟨#[]⟩) && !hasB (p.take k) (p.getD k ⟨#[]⟩))) := rfl
      obtain ⟨s, hs⟩ : ∃ s, p.getD k ⟨#[]⟩ = s := ⟨_, rfl⟩
      rw [hs] at ck hsz TS UA
      clear hc hs
      have hrun := hCk.look hsz
      have hcl := cntN_le (p.take k) s
      rw [List.length_take] at hcl
      have HB : Hid (hasB (p.take k) s = decide (cntN (p.take k) s ≠ 0)) := cntN_has _ _
      have HN : Hid (cntN (p.take k ++ [s]) s = cntN (p.take k) s + 1) := by show _ = _; rw [cntN_snoc, if_pos (by simp)]
      obtain ⟨c, hce⟩ : ∃ c, cntN (p.take k) s = c := ⟨_, rfl⟩
      rw [hce] at hrun hcl HB HN
      have HV : Hid (Value.int .i64 ((c : Int) + 1) = Value.int .i64 ((cntN (p.take k) s : Int) + 1)) := by show _ = _; rw [hce]
      have hcb : c ≤ 999999 := by omega
      have hl2 : (p.take k).length < 1000000 := by rw [List.length_take]; omega
      have L2 : Hid _ := hl2
      have SZ : Hid _ := hsz
      clear hce hCk hcl hl2 hsz
      go_wp2_with (at_mapUpdate; refine wpList_count rfl _ _ _ rfl w.heap.size k (p.take k) s SZ.out rfl CK.out (by omega) L2.out rfl HV.out ?_)
      intro w1 hC1 hF1
      have hrun2 := hC1.look SZ.out
      rw [HN.out] at hrun2
      have e2 : ((c + 1 : Nat) : Int) = (c : Int) + 1 := by omega
      rw [e2] at hrun2
      have CN : Hid (CM w1 w.heap.size (k + 1) (p.take (k + 1))) := by
        show CM _ _ _ _
        rw [TS.out]; exact hC1
      have E1 : Hid (Ex w w1) := hF1.to_ex E.out (Nat.le_refl _)
      clear hC1 hF1 hrun CK e2
      by_cases h0 : c = 0
      · have g1 : decide ((1 : Int) < (c : Int) + 1) = false := decide_eq_false (by omega)
        have H0 : Hid (hasB (p.take k) s = false) := HB.out.trans (decide_eq_false (by omega))
        clear h0
        go_wp2_with fail
        refine (nameOk_any s _).mono ?_
        rintro e w2 ⟨rfl, hb2⟩
        cases hw : wordB s with
        | false =>
          have HR : Hid (R = false) := V.out (by rw [UA.out, hw]; rfl)
          go_wp2_with fail
          go_ret
          exact ⟨ret_b HR.out.symm, E1.out.trans hb2⟩
        | true =>
          have HU : Hid _ := U.out (by rw [UA.out, hw, H0.out]; rfl)
          have CE : Hid (CM w2 w.heap.size (k + 1) (p.take (k + 1))) := CN.out.ex hb2
          clear hw
          go_wp2_with fail
          go_roundw
          case rel => exact ⟨k + 1, by omega, by go_num, CE.out, HU.out, E1.out.trans hb2⟩
          case measure => simp [intOf]; omega
      · have g1 : decide ((1 : Int) < (c : Int) + 1) = true := decide_eq_true (by omega)
        have HR : Hid (R = false) := V.out (by rw [UA.out, HB.out, decide_eq_true h0]; simp)
        clear h0
        go_wp2_with fail
        go_ret
        exact ⟨ret_b HR.out.symm, E1.out⟩
    · have HR : Hid (R = true) := R2.out.trans (uniqB_yes fun i hi => A.out i (by omega))
      go_wp2_with fail
      go_ret
      exact ⟨ret_b HR.out.symm, E.out⟩

end Go.Proofs.YtldbmlojgakieaaDoor

namespace Go.Proofs.YtldbmlojgakieaaDoor

open Go.RowKit Go.Deep Go.Maps Go.WideMaps

attribute [local go_sem ↓] Go.wp_at_zero Go.wp_at_succ

theorem pathB_none {p : List Int} (h : p.length = 0) : pathB p = true := by
  have := List.length_eq_zero_iff.mp h
  subst this; rfl
theorem own_tok (ns : List ByteArray) (k n : Int) (s : ByteArray) (p : List Int) (l : Nat) : ((decide (l ≤ 2) && decide (p.length ≤ 4)) && (pathB p && ownB ns k n s p l)) = (tokB k n s p l && (!decide (k = 2) || hasB ns s)) := by
  by_cases k1 : k = 1
  · subst k1
    by_cases hs : s.size = 0
    · by_cases hp : p.length = 0
      · rw [ownB_1 hs hp, tokB_1, pathB_none hp, decide_eq_true hs, decide_eq_true hp, decide_eq_true (show p.length ≤ 4 by omega)]
        by_cases hl : l = 0
        · subst hl; simp
        · simp [hl]
      · rw [ownB_p (by decide) hp, tokB_1, decide_eq_true hs, decide_eq_false hp]; simp
    · rw [ownB_s (by decide) hs, tokB_1, decide_eq_false hs]; simp
  by_cases k2 : k = 2
  · subst k2
    by_cases hn : n = 0
    · by_cases hp : p.length = 0
      · rw [ownB_2 hn hp, tokB_2, pathB_none hp, decide_eq_true hn, decide_eq_true hp, decide_eq_true (show p.length ≤ 4 by omega)]
        by_cases hl : l = 0
        · subst hl; simp
        · simp [hl]
      · rw [ownB_p (by decide) hp, tokB_2, decide_eq_true hn, decide_eq_false hp]; simp
    · rw [ownB_n (by decide) hn, tokB_2, decide_eq_false hn]; simp
  rw [decide_eq_false k2]
  by_cases k7 : k = 7
  · subst k7
    by_cases hn : n = 0
    · by_cases hs : s.size = 0
      · rw [ownB_7 hn hs, tokB_7, decide_eq_true hn, decide_eq_true hs]
        by_cases hl : l = 1
        · subst hl; simp
        · simp [hl]
      · rw [ownB_s (by decide) hs, tokB_7, decide_eq_true hn, decide_eq_false hs]; simp
    · rw [ownB_n (by decide) hn, tokB_7, decide_eq_false hn]; simp
  by_cases k8 : k = 8
  · subst k8
    by_cases hn : n = 0
    · by_cases hs : s.size = 0
      · rw [ownB_8 hn hs, tokB_8, decide_eq_true hn, decide_eq_true hs]
        by_cases hl : l = 2
        · subst hl; simp
        · simp [hl]
      · rw [ownB_s (by decide) hs, tokB_8, decide_eq_true hn, decide_eq_false hs]; simp
    · rw [ownB_n (by decide) hn, tokB_8, decide_eq_false hn]; simp
  by_cases hk : k = 3 ∨ k = 4 ∨ k = 5 ∨ k = 6
  · rw [tokB_3 hk]
    by_cases hn : n = 0
    · by_cases hs : s.size = 0
      · by_cases hp : p.length = 0
        · rw [ownB_o k1 k2 k7 hn hs hp, pathB_none hp, decide_eq_true hn, decide_eq_true hs, decide_eq_true hp, decide_eq_true (show p.length ≤ 4 by omega), decide_eq_true (show 3 ≤ k ∧ k ≤ 8 by omega)]
          by_cases hl : l = 2
          · subst hl; simp
          · simp [hl]
        · rw [ownB_p (by omega) hp, decide_eq_true hn, decide_eq_true hs, decide_eq_false hp]; simp
      · rw [ownB_s k2 hs, decide_eq_true hn, decide_eq_false hs]; simp
    · rw [ownB_n k1 hn, decide_eq_false hn]; simp
  · rw [tokB_o (by omega)]
    by_cases hn : n = 0
    · by_cases hs : s.size = 0
      · by_cases hp : p.length = 0
        · rw [ownB_o k1 k2 k7 hn hs hp, decide_eq_false (show ¬ (3 ≤ k ∧ k ≤ 8) by omega)]; simp
        · rw [ownB_p (by omega) hp]; simp
      · rw [ownB_s k2 hs]; simp
    · rw [ownB_n k1 hn]; simp

/-- All terms of a list are ok by names. -/
def kidsB (ns : List ByteArray) (d : Nat) (f : TM) : Bool := (List.range (tlen f)).all fun i => kidB ns d f i
theorem kidsB_no {ns : List ByteArray} {d : Nat} {f : TM} {i : Nat} (h : i < tlen f) (hb : kidB ns d f i = false) : kidsB ns d f = false := by
  simp only [kidsB]
  rw [List.all_eq_false]
  exact ⟨i, List.mem_range.2 h, by rw [hb]; simp⟩
theorem kidsB_yes {ns : List ByteArray} {d : Nat} {f : TM} (h : ∀ i, i < tlen f → kidB ns d f i = true) : kidsB ns d f = true := by
  simp only [kidsB]
  rw [List.all_eq_true]
  exact fun i hi => h i (List.mem_range.1 hi)
theorem termB_tok (ns : List ByteArray) (d : Nat) (k n : Int) (s : ByteArray) (p : List Int) (f : TM) : termB ns (d + 1) k n s p f = (tokB k n s p (tlen f) && ((!decide (k = 2) || hasB ns s) && kidsB ns d f)) := by
  have h := own_tok ns k n s p (tlen f)
  show ((decide (tlen f ≤ 2) && decide (p.length ≤ 4)) && (kidsB ns d f && (pathB p && ownB ns k n s p (tlen f)))) = _
  rw [← Bool.and_assoc (tokB _ _ _ _ _), ← h]
  cases kidsB ns d f <;> simp

/-- The fault, and none. -/
abbrev EV (ea : Addr) : Value := .iface 105 (.pointer (some ea))
def errV (ea : Addr) (ok : Bool) : Value := if ok then .nilIface else EV ea
def ErrP (ea : Addr) (ok : Bool) (w : World) (e : Ending) (w' : World) : Prop := e = .returned (errV ea ok) ∧ Ex w w'

set_option maxRecDepth 100000 in
set_option maxHeartbeats 2000000 in
theorem term_by (ea : Addr) (aa : Option Addr) (al ac mb m : Nat) (ns : List ByteArray) (k n : Int) (s : ByteArray) (p : List Int) (pa : Option Addr) (pc : Nat) (f : TM) (a : Option Addr) (c d : Nat) (hd : d ≤ 1000) (w : World)
    (hG : w.cell? ⟨0, 0, none⟩ = some (EV ea)) (hC : CM w mb m ns) (hs : s.size ≤ 9223372036854775807) (hP : PA w 0 p pa)
    (hK : ∀ w', Ex w w' → Calls Tryd.prog 39 #[.agg #[.slice aa al ac, .map (some mb)], .slice a (tlen f) c, .int .i64 d] w' (ErrP ea (kidsB ns d f) w')) :
    Calls Tryd.prog 32 #[.agg #[.slice aa al ac, .map (some mb)], .agg #[.int .i64 k, .int .i64 n, .string s, .slice pa p.length pc, .slice a (tlen f) c], .int .i64 (d + 1 : Nat)] w (ErrP ea (termB ns (d + 1) k n s p f) w) := by
  have G : Hid (∀ w', Ex w w' → w'.cell? ⟨0, 0, none⟩ = some (EV ea)) := fun w' h => h.at hG
  have CC : Hid (∀ w', Ex w w' → CM w' mb m ns) := fun w' h => hC.ex h
  have P : Hid (∀ w', Ex w w' → PA w' 0 p pa) := fun _ h => PA_below hP h
  have K : Hid _ := hK
  have SZ : Hid _ := hs
  have N : Hid (Ex w ((w.alloc (.cells #[.slice aa al ac, .map (some mb)] 70)).alloc (.cells #[.int .i64 k, .int .i64 n, .string s, .slice pa p.length pc, .slice a (tlen f) c] 28))) := (Ex.new _ _).alloc _
  have C : Hid (∀ w', Ex ((w.alloc (.cells #[.slice aa al ac, .map (some mb)] 70)).alloc (.cells #[.int .i64 k, .int .i64 n, .string s, .slice pa p.length pc, .slice a (tlen f) c] 28)) w' → w'.cell? ⟨w.heap.size, 0, none⟩ = some (.slice aa al ac) ∧ w'.cell? ⟨w.heap.size, 1, none⟩ = some (.map (some mb)) ∧ w'.cell? ⟨w.heap.size + 1, 0, none⟩ = some (.int .i64 k) ∧ w'.cell? ⟨w.heap.size + 1, 1, none⟩ = some (.int .i64 n) ∧ w'.cell? ⟨w.heap.size + 1, 2, none⟩ = some (.string s) ∧ w'.cell? ⟨w.heap.size + 1, 3, none⟩ = some (.slice pa p.length pc) ∧ w'.cell? ⟨w.heap.size + 1, 4, none⟩ = some (.slice a (tlen f) c)) := fun w' h => ⟨h.at (by simp), h.at (by simp), h.at (by simp), h.at (by simp), h.at (by simp), h.at (by simp), h.at (by simp)⟩
  have HT : Hid (termB ns (d + 1) k n s p f = (tokB k n s p (tlen f) && ((!decide (k = 2) || hasB ns s) && kidsB ns d f))) := termB_tok ns d k n s p f
  obtain ⟨R, hR⟩ : ∃ R, R = termB ns (d + 1) k n s p f := ⟨_, rfl⟩
  rw [← hR] at HT ⊢
  obtain ⟨bt, hbt⟩ : ∃ b, tokB k n s p (tlen f) = b := ⟨_, rfl⟩
  have TO : Hid (∀ w', Ex w w' → Calls Tryd.prog 38 #[.agg #[.int .i64 k, .int .i64 n, .string s, .slice pa p.length pc, .slice a (tlen f) c]] w' fun e w'' => e = .returned (.bool bt) ∧ Ex w' w'') := fun w' h => by have := termOk_any k n s p pa pc (tlen f) a c w' (P.out w' h); rw [hbt] at this; exact this
  rw [hbt] at HT
  obtain ⟨D, hD⟩ : ∃ D : Int, D = ((d + 1 : Nat) : Int) := ⟨_, rfl⟩
  rw [← hD]
  have d0 : (D == 0) = false := by rw [beq_eq_false_iff_ne]; omega
  have d3 : D - 1 = (d : Int) := by omega
  have d4 : IntKind.i64.wrap (D - 1) = (d : Int) := by rw [d3]; exact IntWalk.i64_in _ (by omega)
  clear hR hbt hG hC hP hK hs hD P
  go_enter Tryd.func32, Tryd.ntmps32
  go_wp2_with fail
  refine (TO.out _ N.out).mono ?_
  rintro e w1 ⟨rfl, hb1⟩
  have X1 : Hid (Ex ((w.alloc (.cells #[.slice aa al ac, .map (some mb)] 70)).alloc (.cells #[.int .i64 k, .int .i64 n, .string s, .slice pa p.length pc, .slice a (tlen f) c] 28)) w1) := hb1
  obtain ⟨c0, c1, c2, c3, c4, c5, c6⟩ := C.out w1 hb1
  have g0 := G.out w1 (N.out.trans hb1)
  clear hb1 TO
  cases bt with
  | false =>
    have HR : Hid (R = false) := HT.out
    go_wp2_with fail
    go_ret
    exact ⟨by rw [HR.out]; rfl, N.out.trans X1.out⟩
  | true =>
    have FIN : Hid (∀ w', Ex ((w.alloc (.cells #[.slice aa al ac, .map (some mb)] 70)).alloc (.cells #[.int .i64 k, .int .i64 n, .string s, .slice pa p.length pc, .slice a (tlen f) c] 28)) w' → R = kidsB ns d f → Calls Tryd.prog 39 #[.agg #[.slice aa al ac, .map (some mb)], .slice a (tlen f) c, .int .i64 d] w' (ErrP ea R w')) := fun w' h hr => by rw [hr]; exact K.out w' (N.out.trans h)
    clear K
    by_cases k2 : k = 2
    · have q2 : (k == 2) = true := by rw [beq_iff_eq]; exact k2
      have hrun := (CC.out w1 (N.out.trans X1.out)).look SZ.out
      have hcl := cntN_le ns s
      have HB : Hid (hasB ns s = decide (cntN ns s ≠ 0)) := cntN_has _ _
      have HT2 : Hid (R = (hasB ns s && kidsB ns d f)) := HT.out.trans (by rw [decide_eq_true k2]; rfl)
      have K2 : Hid (k = 2) := k2
      obtain ⟨cn, hce⟩ : ∃ cn, cntN ns s = cn := ⟨_, rfl⟩
      rw [hce] at hrun hcl HB
      clear hce k2
      by_cases h0 : cn = 0
      · have e0 : ((cn : Int) == 0) = true := by rw [beq_iff_eq]; omega
        have HR : Hid (R = false) := HT2.out.trans (by rw [HB.out, decide_eq_false (by omega)]; rfl)
        clear h0
        go_wp2_with fail
        go_ret
        exact ⟨by rw [HR.out]; rfl, N.out.trans X1.out⟩
      · have e0 : ((cn : Int) == 0) = false := by rw [beq_eq_false_iff_ne]; omega
        have HR : Hid (R = kidsB ns d f) := HT2.out.trans (by rw [HB.out, decide_eq_true h0]; rfl)
        clear h0
        go_wp2_with fail
        refine (FIN.out _ X1.out HR.out).mono ?_
        rintro e w2 ⟨rfl, hb2⟩
        go_wp2_with fail
        go_ret
        exact ⟨rfl, N.out.trans (X1.out.trans hb2)⟩
    · have q2 : (k == 2) = false := by rw [beq_eq_false_iff_ne]; exact k2
      have HR : Hid (R = kidsB ns d f) := HT.out.trans (by rw [decide_eq_false k2]; rfl)
      go_wp2_with fail
      refine (FIN.out _ X1.out HR.out).mono ?_
      rintro e w2 ⟨rfl, hb2⟩
      go_wp2_with fail
      go_ret
      exact ⟨rfl, N.out.trans (X1.out.trans hb2)⟩

set_option maxRecDepth 100000 in
set_option maxHeartbeats 2000000 in
theorem term_zero (ea : Addr) (aa : Option Addr) (al ac mb : Nat) (k n : Int) (s : ByteArray) (p : List Int) (pa : Option Addr) (pc : Nat) (f : TM) (a : Option Addr) (c : Nat) (w : World) (hG : w.cell? ⟨0, 0, none⟩ = some (EV ea)) :
    Calls Tryd.prog 32 #[.agg #[.slice aa al ac, .map (some mb)], .agg #[.int .i64 k, .int .i64 n, .string s, .slice pa p.length pc, .slice a (tlen f) c], .int .i64 (0 : Nat)] w (ErrP ea false w) := by
  have g0 : ((w.alloc (.cells #[.slice aa al ac, .map (some mb)] 70)).alloc (.cells #[.int .i64 k, .int .i64 n, .string s, .slice pa p.length pc, .slice a (tlen f) c] 28)).cell? ⟨0, 0, none⟩ = some (EV ea) := ((Ex.new _ _).alloc _).at hG
  go_enter Tryd.func32, Tryd.ntmps32
  go_wp2_with fail
  go_ret
  exact ⟨rfl, (Ex.new _ _).alloc _⟩

set_option maxRecDepth 100000 in
set_option maxHeartbeats 2000000 in
theorem terms_by (ea : Addr) (aa : Option Addr) (al ac mb : Nat) (ns : List ByteArray) (f : TM) (a : Option Addr) (c d : Nat) (w : World) (hM : MA w 0 f a) (hl : tlen f ≤ 1000000000)
    (hK : ∀ j, j < tlen f → ∀ (pa : Option Addr) (pc : Nat) (a' : Option Addr) (c' : Nat) (w' : World), Ex w w' → PA w' 0 (tpath f j) pa → MA w' 0 (tkid f j) a' → Calls Tryd.prog 32 #[.agg #[.slice aa al ac, .map (some mb)], .agg #[.int .i64 (tkind f j), .int .i64 (tnum f j), .string (tname f j), .slice pa (tpath f j).length pc, .slice a' (tlen (tkid f j)) c'], .int .i64 d] w' (ErrP ea (kidB ns d f j) w')) :
    Calls Tryd.prog 39 #[.agg #[.slice aa al ac, .map (some mb)], .slice a (tlen f) c, .int .i64 d] w (ErrP ea (kidsB ns d f) w) := by
  have M : Hid (∀ w', Ex w w' → MA w' 0 f a) := fun _ h => MA_below hM h
  have I : Hid _ := hK
  have N : Hid (Ex w (w.alloc (.cells #[.slice aa al ac, .map (some mb)] 70))) := Ex.new _ _
  have C : Hid (∀ w', Ex (w.alloc (.cells #[.slice aa al ac, .map (some mb)] 70)) w' → w'.cell? ⟨w.heap.size, 0, none⟩ = some (.slice aa al ac) ∧ w'.cell? ⟨w.heap.size, 1, none⟩ = some (.map (some mb))) := fun w' h => ⟨h.at (by simp), h.at (by simp)⟩
  clear hM hK
  obtain ⟨R, hR⟩ : ∃ R, R = kidsB ns d f := ⟨_, rfl⟩
  have RR : Hid (R = kidsB ns d f) := hR
  rw [← hR]
  clear hR
  go_enter Tryd.func39, Tryd.ntmps39
  go_wp2_with fail
  go_loopw [8, 9, 12] (fun _ _ i wr => ∃ (j : Nat), j ≤ tlen f ∧ i = .int .i64 j ∧ (∀ l, l < j → kidB ns d f l = true) ∧ Ex (w.alloc (.cells #[.slice aa al ac, .map (some mb)] 70)) wr) (fun _ _ i _ => tlen f - (intOf i).toNat)
  case atStart => exact ⟨0, by omega, rfl, fun j hj => by omega, Ex.refl _⟩
  case round =>
    obtain ⟨j, hj, rfl, hall, hx⟩ := hrel
    have A : Hid (∀ l, l < j → kidB ns d f l = true) := hall
    have E : Hid (Ex (w.alloc (.cells #[.slice aa al ac, .map (some mb)] 70)) wr) := hx
    obtain ⟨c0, c1⟩ := C.out wr hx
    clear hall hx
    by_cases hlt : j < tlen f
    · obtain ⟨b, o, rfl, _, hbs, hk⟩ := MA_at (M.out wr (N.out.trans E.out)) (by omega)
      obtain ⟨e0, e1, e2, ⟨pa, pc, e3, hp'⟩, a', c', e4, hm'⟩ := hk j hlt
      have HI : Hid (∀ w', Ex wr w' → Calls Tryd.prog 32 #[.agg #[.slice aa al ac, .map (some mb)], .agg #[.int .i64 (tkind f j), .int .i64 (tnum f j), .string (tname f j), .slice pa (tpath f j).length pc, .slice a' (tlen (tkid f j)) c'], .int .i64 d] w' (ErrP ea (kidB ns d f j) w')) := fun w' h => I.out j hlt pa pc a' c' w' (N.out.trans (E.out.trans h)) (PA_below (PS_pa.1 hp'.1) h) (MA_below hm' h)
      have U : Hid (kidB ns d f j = true → ∀ l, l < j + 1 → kidB ns d f l = true) := fun h => upto_succ A.out h
      have V : Hid (kidB ns d f j = false → R = false) := fun h => RR.out.trans (kidsB_no hlt h)
      clear hk hp' hm'
      have zr : w.heap.size < wr.heap.size := by have := E.out.size; rw [World.size_alloc] at this; omega
      go_wp2_with fail
      refine Calls.mono (HI.out _ (Ex.new _ _)) ?_
      rintro e w1 ⟨rfl, hb1⟩
      have E1 : Hid (Ex (w.alloc (.cells #[.slice aa al ac, .map (some mb)] 70)) w1) := E.out.trans ((Ex.new _ _).trans hb1)
      clear hb1 HI
      cases hkb : kidB ns d f j with
      | false =>
        have HR : Hid (R = false) := V.out hkb
        clear hkb
        simp only [errV, Bool.false_eq_true, if_false]
        go_wp2_with fail
        go_ret
        exact ⟨by rw [HR.out]; rfl, N.out.trans E1.out⟩
      | true =>
        have HU : Hid _ := U.out hkb
        clear hkb
        simp only [errV, if_true]
        go_wp2_with fail
        go_roundw
        case rel => exact ⟨j + 1, by omega, by go_num, HU.out, E1.out⟩
        case measure => simp [intOf]; omega
    · have HR : Hid (R = true) := RR.out.trans (kidsB_yes fun l hl => A.out l (by omega))
      go_wp2_with fail
      go_ret
      exact ⟨by rw [HR.out]; rfl, N.out.trans E.out⟩

theorem terms_any (ea : Addr) (aa : Option Addr) (al ac mb m : Nat) (ns : List ByteArray) : ∀ (d : Nat) (f : TM) (a : Option Addr) (c : Nat) (w : World), d ≤ 1000 → w.cell? ⟨0, 0, none⟩ = some (EV ea) → CM w mb m ns → MA w 0 f a → tlen f ≤ 1000000000 → TSm f → TLm f →
    Calls Tryd.prog 39 #[.agg #[.slice aa al ac, .map (some mb)], .slice a (tlen f) c, .int .i64 d] w (ErrP ea (kidsB ns d f) w) := by
  intro d
  induction d with
  | zero =>
    intro f a c w _ hG _ hM hl _ _
    exact terms_by ea aa al ac mb ns f a c 0 w hM hl fun j hj pa pc a' c' w' hx _ _ => term_zero ea aa al ac mb _ _ _ _ pa pc _ a' c' w' (hx.at hG)
  | succ d ih =>
    intro f a c w hd hG hC hM hl hsm hlm
    refine terms_by ea aa al ac mb ns f a c (d + 1) w hM hl fun j hj pa pc a' c' w' hx hp hm => ?_
    obtain ⟨g1, g2, g3⟩ := TSm_kid hsm j hj
    obtain ⟨h1, h2, h3, h4⟩ := TLm_at hlm j hj
    exact term_by ea aa al ac mb m ns _ _ _ _ pa pc _ a' c' d (by omega) w' (hx.at hG) (hC.ex hx) h1 hp fun w2 hx2 => ih _ a' c' w2 (by omega) ((hx.trans hx2).at hG) (hC.ex (hx.trans hx2)) (MA_below hm hx2) g2 g3 h4

end Go.Proofs.YtldbmlojgakieaaDoor

namespace Go.Proofs.YtldbmlojgakieaaDoor

open Go.RowKit Go.Deep

attribute [local go_sem ↓] Go.wp_at_zero Go.wp_at_succ

/-- All lists are of a length that is one. -/
def Lm : F → Prop
  | .nil => True
  | .node _ _ _ k r => len k ≤ 9223372036854775807 ∧ Lm k ∧ Lm r
theorem Lm_kid : ∀ {f : F}, Lm f → ∀ i, i < len f → len (kid f i) ≤ 9223372036854775807 ∧ Lm (kid f i)
  | .nil, _, i, h => by simp [len] at h
  | .node _ _ _ k r, hs, 0, _ => ⟨hs.1, hs.2.1⟩
  | .node _ _ _ k r, hs, i + 1, h => Lm_kid hs.2.2 i (by simp only [len] at h; omega)

/-- Small, as far as it goes. -/
def SmTo (f : F) (k : Nat) : Prop := ∀ j, j < k → len (kid f j) ≤ 1000000000 ∧ Sm (kid f j)
theorem Sm_of : ∀ {f : F}, SmTo f (len f) → Sm f
  | .nil, _ => trivial
  | .node _ _ _ k r, h => ⟨(h 0 (by simp [len])).1, (h 0 (by simp [len])).2, Sm_of fun j hj => h (j + 1) (by simp only [len]; omega)⟩

end Go.Proofs.YtldbmlojgakieaaDoor

namespace Go.Proofs.YtldbmlojgakieaaDoor

open Go.RowKit Go.Deep Go.Maps Go.WideMaps

/-- Of which type something is that is made of such of these types. -/
def opT (k : Int) (p : List Int) (l : F) : Option F :=
  if k = 6 then (if fits 4 l = true then some l else none)
  else if k = 7 then partF (kid l 0) p
  else if k = 8 then (match partF (kid l 0) p with | some g => if eqT g (kid l 1) = true then some (kid l 0) else none | none => none)
  else if len (kid l 0) = 0 ∧ len (kid l 1) = 0 then some .nil else none
/-- .. a term, told those of its own list. -/
def oneT (L : ByteArray → F) (k : Int) (s : ByteArray) (p : List Int) : Option F → Option F
  | none => none
  | some l => if k = 1 then some .nil else if k = 2 then some (L s) else opT k p l
/-- .. terms. -/
def evT (L : ByteArray → F) : TM → Option F
  | .nil => some .nil
  | .node _ _ (k, _, s, p) f r => (oneT L k s p (evT L f)).bind fun v => (evT L r).bind fun l => some (.node 0 0 0 v l)
/-- .. a term of a list. -/
def evTAt (L : ByteArray → F) (f : TM) (i : Nat) : Option F := oneT L (tkind f i) (tname f i) (tpath f i) (evT L (tkid f i))
/-- .. the first terms of a list. -/
def evTP (L : ByteArray → F) (f : TM) : Nat → Option F
  | 0 => some .nil
  | j + 1 => (evTP L f j).bind fun l => (evTAt L f j).bind fun v => some (snoc l 0 v)

theorem evTP_node (L : ByteArray → F) (x y : Nat) (d : Int × Int × ByteArray × List Int) (f r : TM) : ∀ j, evTP L (.node x y d f r) (j + 1) = (evTAt L (.node x y d f r) 0).bind fun v => (evTP L r j).bind fun l => some (.node 0 0 0 v l)
  | 0 => by
    obtain ⟨k, n, s, p⟩ := d
    simp only [evTP, Option.bind_some]
    cases evTAt L (.node x y (k, n, s, p) f r) 0 <;> rfl
  | j + 1 => by
    obtain ⟨k, n, s, p⟩ := d
    rw [evTP, evTP_node L x y (k, n, s, p) f r j, evTP]
    cases h1 : evTAt L (.node x y (k, n, s, p) f r) 0 with
    | none => rfl
    | some v =>
      simp only [Option.bind_some]
      cases h2 : evTP L r j with
      | none => rfl
      | some l =>
        simp only [Option.bind_some]
        have e : evTAt L (.node x y (k, n, s, p) f r) (j + 1) = evTAt L r j := rfl
        rw [e]
        cases evTAt L r j <;> rfl
theorem evTP_all (L : ByteArray → F) : ∀ f : TM, evTP L f (tlen f) = evT L f
  | .nil => rfl
  | .node x y (k, n, s, p) f r => by
    have e : tlen (.node x y (k, n, s, p) f r : TM) = tlen r + 1 := rfl
    rw [e, evTP_node, evTP_all L r]
    rfl
theorem evTP_none {L : ByteArray → F} {f : TM} {j : Nat} (h : evTP L f j = none) : ∀ i, j ≤ i → evTP L f i = none := by
  intro i hi
  induction i with
  | zero => have : j = 0 := by omega
            rw [this] at h; exact h
  | succ i ih =>
    by_cases e : j = i + 1
    · rw [← e]; exact h
    · rw [evTP, ih (by omega)]; rfl
theorem evT_none {L : ByteArray → F} {f : TM} {j : Nat} (hj : j < tlen f) (h : evTAt L f j = none) : evT L f = none := by
  rw [← evTP_all]
  refine evTP_none (j := j + 1) ?_ _ hj
  rw [evTP]
  cases evTP L f j with
  | none => rfl
  | some l => simp only [Option.bind_some]; rw [h]; rfl
theorem evTP_snoc {L : ByteArray → F} {f : TM} {j : Nat} {l v : F} (h : evTP L f j = some l) (hv : evTAt L f j = some v) : evTP L f (j + 1) = some (snoc l 0 v) := by
  rw [evTP, h, Option.bind_some, hv]; rfl
theorem evT_len {L : ByteArray → F} : ∀ {f : TM} {l : F}, evT L f = some l → len l = tlen f
  | .nil, l, h => by cases h; rfl
  | .node x y (k, n, s, p) f r, l, h => by
    rw [evT] at h
    cases h1 : oneT L k s p (evT L f) with
    | none => rw [h1] at h; cases h
    | some v =>
      rw [h1] at h
      simp only [Option.bind_some] at h
      cases h2 : evT L r with
      | none => rw [h2] at h; cases h
      | some q =>
        rw [h2] at h; cases h
        show len q + 1 = tlen r + 1
        rw [evT_len h2]
/-- .. each of a list that is told. -/
theorem evT_at {L : ByteArray → F} {f : TM} {l : F} (h : evT L f = some l) {j : Nat} (hj : j < tlen f) : evTAt L f j = some (kid l j) := by
  rw [← evTP_all] at h
  have key : ∀ n, n ≤ tlen f → ∀ l, evTP L f n = some l → len l = n ∧ ∀ j, j < n → evTAt L f j = some (kid l j) := by
    intro n
    induction n with
    | zero => intro _ l hl; cases hl; exact ⟨rfl, fun j hj => absurd hj (Nat.not_lt_zero _)⟩
    | succ n ih =>
      intro hn l hl
      rw [evTP] at hl
      cases h1 : evTP L f n with
      | none => rw [h1] at hl; cases hl
      | some q =>
        rw [h1, Option.bind_some] at hl
        cases h2 : evTAt L f n with
        | none => rw [h2] at hl; cases hl
        | some v =>
          rw [h2] at hl; cases hl
          obtain ⟨e, hk⟩ := ih (by omega) q h1
          refine ⟨by rw [len_snoc, e], fun j hj => ?_⟩
          rw [kid_snoc]
          by_cases hlt : j < n
          · rw [if_pos (by omega)]; exact hk j hlt
          · have : j = n := by omega
            rw [if_neg (by omega), if_pos (by omega), this]; exact h2
  exact (key _ (Nat.le_refl _) l h).2 j hj

theorem SA_ex {w w' : World} {S : Nat → Prop} {f : F} {a : Option Addr} (h : SA w S f a) (hx : Ex w w') : SA w' S f a := SA_ks h fun b _ hlt => hx.block b hlt

/-- A type that is told, or the fault that there is none. What is told lies in blocks of S, or in new ones. -/
def TyP (eb : Addr) (S : Nat → Prop) (R : Option F) (w : World) (e : Ending) (w' : World) : Prop :=
  ∃ a' c', e = .returned (.tuple #[.agg #[.slice a' (len (R.getD .nil)) c'], errV eb R.isSome]) ∧ SA w' (fun b => S b ∨ w.heap.size ≤ b) (R.getD .nil) a' ∧ Ex w w'
/-- .. types. -/
def TysP (eb : Addr) (S : Nat → Prop) (R : Option F) (w : World) (e : Ending) (w' : World) : Prop :=
  ∃ a' c', e = .returned (.tuple #[.slice a' (len (R.getD .nil)) c', errV eb R.isSome]) ∧ SA w' (fun b => S b ∨ w.heap.size ≤ b) (R.getD .nil) a' ∧ Ex w w'

/-- How an element of the map reads: as itself. -/
def selfT : Value → Option (DataW Value × List MemPlace) := fun v => some (.held v, [])
abbrev zT : Value := .agg #[.slice none 0 0]

/-- A block is a map that holds of each name its type. -/
def KM (w : World) (S : Nat → Prop) (mb n : Nat) (L : ByteArray → F) : Prop := ∃ D : DataW Value, w.ownsMap Tryd.prog 9 selfT mb n D ∧
  ∀ s : ByteArray, ∃ a c, D.atKey (.string s.data.toList) (.held zT) = .held (.agg #[.slice a (len (L s)) c]) ∧ SA w S (L s) a
theorem KM_made (w : World) (S : Nat → Prop) : KM (w.alloc (.map #[] 0)) S w.heap.size 0 fun _ => .nil := ⟨_, World.ownsMap_made w _ _ _, fun _ => ⟨none, 0, rfl, Or.inl rfl⟩⟩
theorem KM.lt {w : World} {S : Nat → Prop} {mb n : Nat} {L : ByteArray → F} (h : KM w S mb n L) : mb < w.heap.size := by
  obtain ⟨D, h1, _⟩ := h
  exact h1.lt
theorem KM.ex {w w' : World} {S : Nat → Prop} {mb n : Nat} {L : ByteArray → F} (h : KM w S mb n L) (hx : Ex w w') : KM w' S mb n L := by
  have hl := h.lt
  obtain ⟨D, ⟨es, cl, h1, h2⟩, h3⟩ := h
  exact ⟨D, ⟨es, cl, (hx.block mb hl).trans h1, h2⟩, fun s => by
    obtain ⟨a, c, e, hV⟩ := h3 s
    exact ⟨a, c, e, SA_ex hV hx⟩⟩
theorem Tryd.zeroType (w : World) : (zeroValue 32).run Tryd.prog w = .ok zT w := by kernel_rfl
/-- A name asked for. -/
theorem KM.look {w : World} {S : Nat → Prop} {mb n : Nat} {L : ByteArray → F} (h : KM w S mb n L) {s : ByteArray} (hs : s.size ≤ 9223372036854775807) :
    ∃ a c, (Instr.lookup 73 (.map (some mb)) (.string s) false).run Tryd.prog w = .ok (.agg #[.slice a (len (L s)) c]) w ∧ SA w S (L s) a := by
  obtain ⟨D, h1, h2⟩ := h
  obtain ⟨a, c, e, hV⟩ := h2 s
  obtain ⟨v, ps, hr, hv⟩ := h1.lookup Tryd.keyed Tryd.underlying73 (Tryd.zeroType _) (zd := .held zT) (zp := []) rfl (key_string hs)
  refine ⟨a, c, ?_, hV⟩
  simp only [selfT, Option.some.injEq, Prod.mk.injEq] at hv
  have hh : DataW.held v = .held (.agg #[.slice a (len (L s)) c]) := hv.1.trans e
  rw [DataW.held.inj hh] at hr; exact hr
/-- The types of names, one of them bound anew. -/
def setK (L : ByteArray → F) (s : ByteArray) (v : F) : ByteArray → F := fun t => if (s.toList == t.toList) = true then v else L t
theorem KM.mono {w : World} {S S' : Nat → Prop} {mb n : Nat} {L : ByteArray → F} (h : KM w S mb n L) (hs : ∀ b, b < w.heap.size → S b → S' b) : KM w S' mb n L := by
  obtain ⟨D, h1, h2⟩ := h
  exact ⟨D, h1, fun s => by
    obtain ⟨a, c, e, hV⟩ := h2 s
    exact ⟨a, c, e, SA_mono hV hs⟩⟩
theorem KM.put {w w' : World} {S : Nat → Prop} {mb n' : Nat} {L : ByteArray → F} {s : ByteArray} {D : DataW Value} {v : F} {a : Option Addr} {c : Nat} (hD : IsMap D) (hx : Fr mb w w') (hS : ¬ S mb)
    (h2 : ∀ s : ByteArray, ∃ a c, D.atKey (.string s.data.toList) (.held zT) = .held (.agg #[.slice a (len (L s)) c]) ∧ SA w S (L s) a) (hV : SA w S v a)
    (h : w'.ownsMap Tryd.prog 9 selfT mb n' (D.put (.string s.data.toList) (.held (.agg #[.slice a (len v) c])))) : KM w' S mb n' (setK L s v) := by
  have mv : ∀ (f : F) (a : Option Addr), SA w S f a → SA w' S f a := fun f a hf => SA_ks hf fun b hs hlt => hx.block b hlt (fun e => hS (e ▸ hs))
  refine ⟨_, h, fun t => ?_⟩
  by_cases he : (s.toList == t.toList) = true
  · have e := byte_key.2 he
    refine ⟨a, c, ?_, ?_⟩
    · rw [← e, atKey_put_same hD (k := .string s.data.toList) (by simp [WideAt.IsKeyLit]), setK, if_pos he]
    · rw [setK, if_pos he]; exact mv _ _ hV
  · obtain ⟨a', c', h3, h4⟩ := h2 t
    refine ⟨a', c', ?_, ?_⟩
    · rw [atKey_put_other (fun e => by injection e with e; exact he (byte_key.1 e.symm)), h3, setK, if_neg he]
    · rw [setK, if_neg he]; exact mv _ _ h4

set_option maxRecDepth 100000 in
/-- A name bound: an operation of an ordered list. -/
theorem wpList_bindT {w : World} {ops : Array Oper} {rest : List Oper} {o : Oper} {a : Act} {Q : Exit → Act → World → Prop} (hg : o.guard = none) (m x v : Operand) (hop : o.op = Op.mapUpdate 73 m x v)
    (S : Nat → Prop) (mb n : Nat) (L : ByteArray → F) (s : ByteArray) (hs : s.size ≤ 9223372036854775807) (hm : a.eval m = .map (some mb)) (hC : KM w S mb n L) (hS : ¬ S mb) (hn : n < 1000000) (hx : a.eval x = .string s)
    (f : F) (ad : Option Addr) (c : Nat) (hv : a.eval v = .agg #[.slice ad (len f) c]) (hV : SA w S f ad)
    (hK : ∀ w', KM w' S mb (n + 1) (setK L s f) → Fr mb w w' → wpList Tryd.prog ops Q rest (a.put o.dst undef) w') : wpList Tryd.prog ops Q (o :: rest) a w := by
  obtain ⟨D, h1, h2⟩ := hC
  have hn' : n < maxLen := by unfold maxLen; omega
  have hR : selfT (.agg #[.slice ad (len f) c]) = some (.held (.agg #[.slice ad (len f) c]), []) := rfl
  refine wpList_mapUpdate_own w hg m x v 73 hop 9 32 Tryd.keyed Tryd.underlying73 selfT mb n D hm h1 hn' (.string s) (.agg #[.slice ad (len f) c]) (.string s.data.toList) hx hv (key_string hs) _ [] hR ?_
  intro w' hown hgr
  exact hK w' (KM.put (v := f) h1.isMap (grown_fr hgr) hS h2 hV hown) (grown_fr hgr)

/-- A list of types in a row that the call owns; what is behind them lies in S or in new blocks, but not in the row's own. -/
def KR (w : World) (base : Nat) (S : Nat → Prop) (v : Value) (l : F) : Prop := ∃ cs, w.ownsRow base 32 1 v (len l) cs ∧
  ∀ j, j < len l → ∃ a' c', cs[j]? = some (.slice a' (len (kid l j)) c') ∧ SA w (fun b => (S b ∨ base ≤ b) ∧ v.ownBlock ≠ some b) (kid l j) a'
theorem KR.nil (w : World) (base : Nat) (S : Nat → Prop) : KR w base S (.slice none 0 0) .nil := ⟨[], World.ownsRow_nil _ _ _ _, fun _ hj => absurd hj (Nat.not_lt_zero _)⟩
theorem KR.ex {w w' : World} {base : Nat} {S : Nat → Prop} {v : Value} {l : F} (h : KR w base S v l) (hx : Ex w w') : KR w' base S v l := by
  obtain ⟨cs, h1, h2⟩ := h
  exact ⟨cs, owns_ex h1 hx, fun j hj => by
    obtain ⟨a', c', e2, hV⟩ := h2 j hj
    exact ⟨a', c', e2, SA_ex hV hx⟩⟩
theorem KR.own {w : World} {base : Nat} {S : Nat → Prop} {v : Value} {l : F} (h : KR w base S v l) : ∀ g, v.ownBlock = some g → base ≤ g ∧ g < w.heap.size := by
  obtain ⟨cs, h1, _⟩ := h
  exact fun g hg => h1.lt g hg
theorem KR.vs {w : World} {base : Nat} {S : Nat → Prop} {v : Value} {l : F} (h : KR w base S v l) : ∃ a c, v = .slice a (len l) c ∧ SA w (fun b => S b ∨ base ≤ b) l a := by
  obtain ⟨cs, h1, h2⟩ := h
  have hc := fun g (hg : v.ownBlock = some g) => h1.cells hg
  obtain ⟨_, ⟨rfl, h0⟩ | ⟨g, cap, cur, rfl, hb, _⟩⟩ := id h1
  · exact ⟨none, 0, by rw [h0], Or.inl h0⟩
  · refine ⟨some ⟨g, 0, none⟩, cap, rfl, SA_mk (Or.inr hb) fun i hi => ?_⟩
    obtain ⟨a', c', e2, hV⟩ := h2 i hi
    have k1 := hc g rfl _ _ e2
    rw [Go.WideShapes.add_plain] at k1
    exact ⟨a', c', k1, SA_mono hV fun b _ hs => hs.1⟩

set_option maxRecDepth 100000 in
/-- A type put behind such a list: an operation of an ordered list. -/
theorem wpList_append_type {w : World} {ops : Array Oper} {rest : List Oper} {o : Oper} {a : Act} {Q : Exit → Act → World → Prop} (hgd : o.guard = none) (s x : Operand)
    (ho : o.op = .call { callee := .builtin .append, args := #[s, x], argTypes := #[24, 24] })
    (w0 : World) (hE : Ex w0 w) (S : Nat → Prop) (base : Nat) (hb : w0.heap.size ≤ base) (hbw : base ≤ w.heap.size) (v : Value) (l : F) (hs : a.eval s = v) (hR : KR w base S v l)
    (b pc : Nat) (f : F) (ad : Option Addr) (c : Nat) (hx : a.eval x = .slice (some ⟨b, 0, none⟩) 1 pc) (hc0 : w.cell? ⟨b, 0, none⟩ = some (.slice ad (len f) c))
    (hV : SA w (fun b => (S b ∨ base ≤ b) ∧ v.ownBlock ≠ some b) f ad) (h63 : len l ≤ 100000000)
    (h : ∀ av cap w', KR w' base S (.slice av (len l + 1) cap) (snoc l 0 f) → Ex w0 w' → (∀ n, n < base → w'.heap[n]? = w.heap[n]?) → wpList Tryd.prog ops Q rest (a.put o.dst (.slice av (len l + 1) cap)) w') :
    wpList Tryd.prog ops Q (o :: rest) a w := by
  obtain ⟨cs, h1, h2⟩ := hR
  obtain ⟨i0, hi, hz0, hz1, hz2⟩ := info_parts Tryd.info32
  have hlen : cs.length = len l := by have := h1.1; omega
  refine wpList_append_lies w hgd s x 24 ho base 32 i0 _ 1 24 Tryd.underlying24 hi hz0 hz1 hz2 rfl (by omega) v (len l) cs hs h1 ⟨b, 0, none⟩ 1 pc [.slice ad (len f) c] hx rfl ?_ ?_ (by omega) (by unfold maxLen; omega) (by omega) hbw w.heap.size rfl ?_
  · intro j q hq
    match j, hq with
    | 0, hq => simp at hq; subst hq; rw [Go.WideShapes.add_plain]; exact hc0
  · simp [Value.oneCell']
  · intro g cap w' hown hgrow hat hlt
    have hr := fun k (hk : v.ownBlock = some k) => (h1.lt k hk).1
    have mv : ∀ (k : F) (a' : Option Addr), SA w (fun b => (S b ∨ base ≤ b) ∧ v.ownBlock ≠ some b) k a' → SA w' (fun b => (S b ∨ base ≤ b) ∧ (Value.slice (some ⟨g, 0, none⟩) (len l + 1) cap).ownBlock ≠ some b) k a' := by
      intro k a' hk
      have q1 := SA_mono (S' := fun b => ((S b ∨ base ≤ b) ∧ v.ownBlock ≠ some b) ∧ b < w.heap.size) hk fun b hb hs => ⟨hs, hb⟩
      refine SA_mono (SA_ks q1 fun b hs hl => hgrow.block b hl (fun e => hs.1.2 e.symm)) fun b _ hs => ⟨hs.1.1, fun e => ?_⟩
      have e' : g = b := by simpa [Value.ownBlock] using e
      rcases hat with h | h
      · exact hs.1.2 (by rw [h, e'])
      · have := hs.2; omega
    refine h (some ⟨g, 0, none⟩) cap w' ⟨_, by rw [len_snoc]; exact hown, fun j hj => ?_⟩ ⟨hgrow.os.trans hE.os, hgrow.tape.trans hE.tape, hgrow.output.trans hE.output, Nat.le_trans hE.size hgrow.size, fun k hk => (hgrow.block k (Nat.lt_of_lt_of_le hk hE.size) (fun e => by have := hr k e.symm; omega)).trans (hE.block k hk)⟩ fun n hn => hgrow.block n (by omega) (fun e => by have := hr n e.symm; omega)
    rw [len_snoc] at hj
    rw [kid_snoc]
    by_cases e : j < len l
    · rw [if_pos e]
      obtain ⟨a', c', e2, hk⟩ := h2 j e
      exact ⟨a', c', by rw [List.getElem?_append_left (by omega)]; exact e2, mv _ _ hk⟩
    · have ej : j = len l := by omega
      rw [if_neg e, if_pos ej]
      exact ⟨ad, c, by rw [List.getElem?_append_right (by omega)]; simp [hlen, ej], mv _ _ hV⟩

end Go.Proofs.YtldbmlojgakieaaDoor

namespace Go.Proofs.YtldbmlojgakieaaDoor

open Go.RowKit Go.Deep Go.Maps Go.WideMaps

attribute [local go_sem ↓] Go.wp_at_zero Go.wp_at_succ

set_option maxRecDepth 100000 in
set_option maxHeartbeats 2000000 in
theorem isNumberType_any (f : F) (a : Option Addr) (c : Nat) (z : Bool) (hz : (((len f : Nat) : Int) == 0) = z) (w : World) :
    Calls Tryd.prog 45 #[.agg #[.slice a (len f) c]] w fun e w' => e = .returned (.bool z) ∧ Ex w w' := by
  go_enter Tryd.func45, Tryd.ntmps45
  go_wp2_with fail
  go_ret
  exact ⟨rfl, Ex.new _ _⟩

/-- A type, if it is so. -/
def ifT (ok : Bool) (f : F) : Option F := if ok then some f else none

set_option maxRecDepth 100000 in
set_option maxHeartbeats 2000000 in
theorem typeIf_any (eb : Addr) (S : Nat → Prop) (f : F) (a : Option Addr) (c : Nat) (ok : Bool) (w : World) (hG : w.cell? ⟨1, 0, none⟩ = some (EV eb)) (hV : SA w S f a) :
    Calls Tryd.prog 41 #[.agg #[.slice a (len f) c], .bool ok] w (TyP eb S (ifT ok f) w) := by
  have V : Hid (∀ w', Ex w w' → SA w' S f a) := fun _ h => SA_ex hV h
  have g1 : ((w.alloc (.cells #[.slice a (len f) c] 32)).alloc (.cells #[.slice none 0 0] 32)).cell? ⟨1, 0, none⟩ = some (EV eb) := ((Ex.new _ _).alloc _).at hG
  have N : Hid (Ex w ((w.alloc (.cells #[.slice a (len f) c] 32)).alloc (.cells #[.slice none 0 0] 32))) := (Ex.new _ _).alloc _
  have zg : 1 < w.heap.size := World.block_lt_of_cell? _ _ hG
  clear hV hG
  cases ok with
  | false =>
    go_enter Tryd.func41, Tryd.ntmps41
    go_wp2_with fail
    go_region
    all_goals
      go_wp2_with fail
      refine bodyPost_ret (v := .tuple #[.agg #[.slice none 0 0], EV eb]) (by simp [results, Tryd.results41, go_sem]) rfl ⟨none, 0, rfl, Or.inl rfl, ?_⟩
      first | exact N.out.drew.set (by show w.heap.size ≤ w.heap.size + 1; omega) _ | exact (N.out.set (by show w.heap.size ≤ w.heap.size + 1; omega) _).drew | exact N.out.drew | exact N.out | exact N.out.set (by show w.heap.size ≤ w.heap.size + 1; omega) _ | exact ((Ex.new _ _).drew.alloc _) | exact ((Ex.new _ _).alloc _).drew | exact ((Ex.new _ _).alloc _)
  | true =>
    go_enter Tryd.func41, Tryd.ntmps41
    go_wp2_with fail
    refine bodyPost_ret (v := .tuple #[.agg #[.slice a (len f) c], .nilIface]) (by simp [results, Tryd.results41, go_sem]) rfl ⟨a, c, rfl, ?_, ?_⟩
    · exact SA_mono (V.out _ ((Ex.new _ _).alloc _)) fun b _ hb => Or.inl hb
    · exact (Ex.new _ _).alloc _

set_option maxRecDepth 100000 in
set_option maxHeartbeats 4000000 in
theorem keach_by (eb : Addr) (S : Nat → Prop) (L : ByteArray → F) (la : Option Addr) (ll lc : Nat) (tm : Option Nat) (mb : Nat) (f : TM) (a : Option Addr) (c : Nat) (w : World) (hM : MA w 0 f a) (hl : tlen f ≤ 100000000) (hS : ∀ b, S b → b < w.heap.size)
    (hK : ∀ j, j < tlen f → ∀ (pa : Option Addr) (pc : Nat) (a' : Option Addr) (c' : Nat) (w' : World), Ex w w' → PA w' 0 (tpath f j) pa → (tpath f j).length ≤ pc ∧ pc ≤ 9223372036854775807 → MA w' 0 (tkid f j) a' → Calls Tryd.prog 34 #[.agg #[.slice la ll lc, .map tm, .map (some mb)], .agg #[.int .i64 (tkind f j), .int .i64 (tnum f j), .string (tname f j), .slice pa (tpath f j).length pc, .slice a' (tlen (tkid f j)) c']] w' (TyP eb S (evTAt L f j) w')) :
    Calls Tryd.prog 51 #[.slice a (tlen f) c, .func (.func 34) #[.agg #[.slice la ll lc, .map tm, .map (some mb)]] #[]] w (TysP eb S (evT L f) w) := by
  have M : Hid (∀ w', Ex w w' → MA w' 0 f a) := fun _ h => MA_below hM h
  have I : Hid _ := hK
  have HS : Hid (∀ b, S b → b < w.heap.size) := hS
  have HLN : Hid (tlen f ≤ 100000000) := hl
  clear hM hK hS
  obtain ⟨R, hR⟩ : ∃ R, R = evT L f := ⟨_, rfl⟩
  have RR : Hid (R = evT L f) := hR
  rw [← hR]
  clear hR
  go_enter Tryd.func51, Tryd.ntmps51
  go_wp2_with fail
  go_loopw [6, 8, 9, 10, 13] (fun ov _ _ _ i wr => ∃ (j : Nat) (l : F), j ≤ tlen f ∧ i = .int .i64 j ∧ evTP L f j = some l ∧ len l = j ∧ KR wr w.heap.size S ov l ∧ Ex w wr) (fun _ _ _ _ i _ => tlen f - (intOf i).toNat)
  case atStart => exact ⟨0, .nil, by omega, rfl, rfl, rfl, KR.nil _ _ _, Ex.refl _⟩
  case round =>
    obtain ⟨j, l, hj, rfl, hev, hlen, hvr, hx⟩ := hrel
    have EVP : Hid (evTP L f j = some l) := hev
    have LJ : Hid (len l = j) := hlen
    have E : Hid (Ex w wr) := hx
    obtain ⟨av, ac, rfl, hvs⟩ := hvr.vs
    have VV : Hid (SA wr (fun b => S b ∨ w.heap.size ≤ b) l av) := hvs
    have O : Hid (KR wr w.heap.size S (.slice av (len l) ac) l) := hvr
    clear hx hev hvr hlen hvs
    by_cases hlt : j < tlen f
    · obtain ⟨b, o, rfl, _, hbs, hk⟩ := MA_at (M.out wr E.out) (by omega)
      obtain ⟨e0, e1, e2, ⟨pa, pc, e3, hp'⟩, a', c', e4, hm'⟩ := hk j hlt
      have HI : Hid (∀ w', Ex wr w' → Calls Tryd.prog 34 #[.agg #[.slice la ll lc, .map tm, .map (some mb)], .agg #[.int .i64 (tkind f j), .int .i64 (tnum f j), .string (tname f j), .slice pa (tpath f j).length pc, .slice a' (tlen (tkid f j)) c']] w' (TyP eb S (evTAt L f j) w')) := fun w' h => I.out j hlt pa pc a' c' w' (E.out.trans h) (PA_below (PS_pa.1 hp'.1) h) hp'.2 (MA_below hm' h)
      have V : Hid (evTAt L f j = none → R = none) := fun h => RR.out.trans (evT_none hlt h)
      clear hk hp' hm'
      go_wp2_with fail
      refine Calls.mono (HI.out _ (Ex.new _ _)) ?_
      rintro e w1 ⟨a1, c1', rfl, hV1, hb1⟩
      have E1 : Hid (Ex wr w1) := (Ex.new _ _).trans hb1
      have X1 : Hid (Ex w w1) := E.out.trans E1.out
      clear hb1 HI
      cases hkb : evTAt L f j with
      | none =>
        have HR : Hid (R = none) := V.out hkb
        clear hkb hV1
        simp only [Option.getD_none, Option.isSome_none, errV, Bool.false_eq_true, if_false]
        go_wp2_with fail
        exact bodyPost_ret (v := .tuple #[.slice none 0 0, EV eb]) (by simp [results, Tryd.results51, go_sem]) rfl ⟨none, 0, by rw [HR.out]; rfl, by rw [HR.out]; exact Or.inl rfl, X1.out.trans (Ex.new _ _)⟩
      | some g =>
        rw [hkb] at hV1
        simp only [Option.getD_some] at hV1
        have V1 : Hid (SA w1 (fun b => S b ∨ (wr.alloc (.cells #[.int .i64 (tkind f j), .int .i64 (tnum f j), .string (tname f j), .slice pa (tpath f j).length pc, .slice a' (tlen (tkid f j)) c'] 28)).heap.size ≤ b) g a1) := hV1
        have EV1 : Hid (evTAt L f j = some g) := hkb
        clear hkb hV1
        simp only [Option.getD_some, Option.isSome_some, errV, if_true]
        have E2 : Hid (Ex w ((w1.alloc (.cells #[.slice a1 (len g) c1'] 32)).alloc (.cells #[.slice a1 (len g) c1'] 32))) := (X1.out.alloc _).alloc _
        have O3 : Hid (KR ((w1.alloc (.cells #[.slice a1 (len g) c1'] 32)).alloc (.cells #[.slice a1 (len g) c1'] 32)) w.heap.size S (.slice av (len l) ac) l) := KR.ex O.out ((E1.out.alloc _).alloc _)
        have C20 : Hid (((w1.alloc (.cells #[.slice a1 (len g) c1'] 32)).alloc (.cells #[.slice a1 (len g) c1'] 32)).cell? ⟨w1.heap.size + 1, 0, none⟩ = some (.slice a1 (len g) c1')) := by show _ = _; simp
        have V3 : Hid (SA ((w1.alloc (.cells #[.slice a1 (len g) c1'] 32)).alloc (.cells #[.slice a1 (len g) c1'] 32)) (fun b => (S b ∨ w.heap.size ≤ b) ∧ (Value.slice av (len l) ac).ownBlock ≠ some b) g a1) := SA_mono (SA_ex V1.out ((Ex.new _ _).alloc _)) fun b _ hb => by
          have ho := KR.own O.out
          have hz := E.out.size
          rcases hb with hb | hb
          · exact ⟨Or.inl hb, fun e => by have := (ho b e).1; have := HS.out b hb; omega⟩
          · rw [World.size_alloc] at hb
            exact ⟨Or.inr (by omega), fun e => by have := (ho b e).2; omega⟩
        have j6 : len l ≤ 100000000 := by have := LJ.out; omega
        have EV2 : Hid (evTP L f (j + 1) = some (snoc l 0 g)) := evTP_snoc EVP.out EV1.out
        clear O E V1 EV1 EVP VV
        go_wp2_with (at_builtin; refine wpList_append_type rfl _ _ rfl w E2.out S w.heap.size (Nat.le_refl _) E2.out.size (.slice av (len l) ac) l rfl O3.out (w1.heap.size + 1) 1 g a1 c1' rfl C20.out V3.out j6 ?_)
        intro av3 ac3 w3 hown3 hx3 _
        have O4 : Hid (KR w3 w.heap.size S (.slice av3 (len l + 1) ac3) (snoc l 0 g)) := hown3
        have E3 : Hid (Ex w w3) := hx3
        clear hown3 hx3 O3 E2 C20 V3
        go_wp2_with fail
        go_roundw
        case rel => exact ⟨j + 1, _, by omega, by go_num, EV2.out, by rw [len_snoc, LJ.out], O4.out, E3.out⟩
        case measure => simp [intOf]; omega
    · have hje : j = tlen f := by omega
      have HR : Hid (R = some l) := by
        show _ = _
        rw [RR.out, ← evTP_all, ← hje]; exact EVP.out
      go_wp2_with fail
      exact bodyPost_ret (v := .tuple #[.slice av (len l) ac, .nilIface]) (by simp [results, Tryd.results51, go_sem]) rfl ⟨av, ac, by rw [HR.out]; rfl, by rw [HR.out]; exact VV.out, E.out⟩

set_option maxRecDepth 100000 in
set_option maxHeartbeats 2000000 in
theorem kterms_by (eb : Addr) (S : Nat → Prop) (L : ByteArray → F) (la : Option Addr) (ll lc : Nat) (tm : Option Nat) (mb : Nat) (f : TM) (a : Option Addr) (c : Nat) (w : World) (hM : MA w 0 f a) (hl : tlen f ≤ 100000000) (hS : ∀ b, S b → b < w.heap.size)
    (hK : ∀ j, j < tlen f → ∀ (pa : Option Addr) (pc : Nat) (a' : Option Addr) (c' : Nat) (w' : World), Ex w w' → PA w' 0 (tpath f j) pa → (tpath f j).length ≤ pc ∧ pc ≤ 9223372036854775807 → MA w' 0 (tkid f j) a' → Calls Tryd.prog 34 #[.agg #[.slice la ll lc, .map tm, .map (some mb)], .agg #[.int .i64 (tkind f j), .int .i64 (tnum f j), .string (tname f j), .slice pa (tpath f j).length pc, .slice a' (tlen (tkid f j)) c']] w' (TyP eb S (evTAt L f j) w')) :
    Calls Tryd.prog 40 #[.agg #[.slice la ll lc, .map tm, .map (some mb)], .slice a (tlen f) c] w (TysP eb S (evT L f) w) := by
  have N : Hid (Ex w (w.alloc (.cells #[.slice la ll lc, .map tm, .map (some mb)] 76))) := Ex.new _ _
  have K : Hid (Calls Tryd.prog 51 #[.slice a (tlen f) c, .func (.func 34) #[.agg #[.slice la ll lc, .map tm, .map (some mb)]] #[]] (w.alloc (.cells #[.slice la ll lc, .map tm, .map (some mb)] 76)) (TysP eb S (evT L f) (w.alloc (.cells #[.slice la ll lc, .map tm, .map (some mb)] 76)))) := keach_by eb S L la ll lc tm mb f a c _ (MA_below hM (Ex.new _ _)) hl (fun b hb => Nat.lt_of_lt_of_le (hS b hb) (Ex.new _ _).size) fun j hj pa pc a' c' w' hx => hK j hj pa pc a' c' w' (N.out.trans hx)
  have h0 : (w.alloc (.cells #[.slice la ll lc, .map tm, .map (some mb)] 76)).cell? ⟨w.heap.size, 0, none⟩ = some (.slice la ll lc) := by simp
  have h1 : (w.alloc (.cells #[.slice la ll lc, .map tm, .map (some mb)] 76)).cell? ⟨w.heap.size, 1, none⟩ = some (.map tm) := by simp
  have h2 : (w.alloc (.cells #[.slice la ll lc, .map tm, .map (some mb)] 76)).cell? ⟨w.heap.size, 2, none⟩ = some (.map (some mb)) := by simp
  clear hM hK hS
  obtain ⟨R, hR⟩ : ∃ R, R = evT L f := ⟨_, rfl⟩
  rw [← hR] at K ⊢
  clear hR
  go_enter Tryd.func40, Tryd.ntmps40
  go_wp2_with fail
  refine Calls.mono K.out ?_
  rintro e w1 ⟨a1, c1', rfl, hV1, hb1⟩
  have V1 : Hid _ := hV1
  have X1 : Hid (Ex (w.alloc (.cells #[.slice la ll lc, .map tm, .map (some mb)] 76)) w1) := hb1
  clear hV1 hb1 h0 h1 h2
  go_wp2_with fail
  refine bodyPost_ret (v := .tuple #[.slice a1 (len (R.getD .nil)) c1', errV eb R.isSome]) (by simp [results, Tryd.results40, go_sem]) rfl ⟨a1, c1', rfl, ?_, N.out.trans X1.out⟩
  refine SA_mono V1.out fun b _ hb => ?_
  rcases hb with hb | hb
  · exact Or.inl hb
  · have := N.out.size; exact Or.inr (by omega)

end Go.Proofs.YtldbmlojgakieaaDoor
