/- Walks: names bound, and names that may be bound together. -/
import Derived.Test.YthdihpcpobhadaaDoorIM3

import Derived.Test.YthdihpcpobhadaaDoorSZ1

namespace Go.Proofs.YthdihpcpobhadaaDoor

open Go.RowKit Go.Deep Go.Maps Go.WideMaps

attribute [local go_sem ↓] Go.wp_at_zero Go.wp_at_succ

theorem take_snoc {p : List ByteArray} {k : Nat} (h : k < p.length) : p.take (k + 1) = p.take k ++ [p.getD k ⟨#[]⟩] := by
  rw [List.take_add_one, List.getElem?_eq_getElem h]
  simp [List.getD, h]

/-- Behind names that were bound. -/
def BindP (mb n : Nat) (ns p : List ByteArray) (w : World) (e : Ending) (w' : World) : Prop := e = .returned (.tuple #[]) ∧ CM w' mb (n + p.length) (ns ++ p) ∧ Fr mb w w'
set_option maxRecDepth 100000 in
set_option maxHeartbeats 2000000 in
theorem bind_any (aa : Option Addr) (al ac mb n : Nat) (ns p : List ByteArray) (xa : Option Addr) (xc : Nat) (w : World) (hC : CM w mb n ns) (hX : ∀ w', Fr mb w w' → XA w' 0 p xa) (hz : XLm p) (hn : n + p.length ≤ 999999) (hns : ns.length + p.length ≤ 999999) :
    Calls Tryd.prog 66 #[.agg #[.slice aa al ac, .map (some mb)], .slice xa p.length xc] w (BindP mb n ns p w) := by
  have hlt := hC.lt
  have N : Hid (Fr mb w (w.alloc (.cells #[.slice aa al ac, .map (some mb)] 102))) := Fr.of_ex (Ex.new _ _) _
  have C : Hid (∀ w', Fr mb (w.alloc (.cells #[.slice aa al ac, .map (some mb)] 102)) w' → w'.cell? ⟨w.heap.size, 1, none⟩ = some (.map (some mb))) := fun w' h => h.at (by show w.heap.size ≠ mb; omega) (by simp)
  have C0 : Hid (CM (w.alloc (.cells #[.slice aa al ac, .map (some mb)] 102)) mb n ns) := hC.ex (Ex.new _ _)
  have X : Hid (∀ w', Fr mb w w' → XA w' 0 p xa) := hX
  have Z : Hid (XLm p) := hz
  clear hC hX hz hlt
  go_enter Tryd.func66, Tryd.ntmps66
  go_wp2_with fail
  go_loopw [5, 8] (fun _ i wr => ∃ k : Nat, k ≤ p.length ∧ i = .int .i64 k ∧ CM wr mb (n + k) (ns ++ p.take k) ∧ Fr mb (w.alloc (.cells #[.slice aa al ac, .map (some mb)] 102)) wr) (fun _ i _ => p.length - (intOf i).toNat)
  case atStart => exact ⟨0, Nat.zero_le _, rfl, by rw [List.take_zero, List.append_nil]; exact C0.out, Fr.refl _ _⟩
  case round =>
    obtain ⟨k, hk, rfl, hCk, hF⟩ := hrel
    have CK : Hid _ := hCk
    have F : Hid (Fr mb (w.alloc (.cells #[.slice aa al ac, .map (some mb)] 102)) wr) := hF
    have cm := C.out wr hF
    clear hF
    by_cases hlt : k < p.length
    · obtain ⟨b, o, rfl, hbs, _, hc⟩ := XA_at (X.out wr (N.out.trans F.out)) (by omega)
      have ck := hc k hlt
      have hsz := Z.out k hlt
      have TS : Hid (p.take (k + 1) = p.take k ++ [p.getD k ⟨#[]⟩]) := take_snoc hlt
      obtain ⟨s, hs⟩ : ∃ s, p.getD k ⟨#[]⟩ = s := ⟨_, rfl⟩
      rw [hs] at ck hsz TS
      clear hc hs
      have hrun := hCk.look hsz
      have hcl := cntN_le (ns ++ p.take k) s
      rw [List.length_append, List.length_take] at hcl
      obtain ⟨c, hce⟩ : ∃ c, cntN (ns ++ p.take k) s = c := ⟨_, rfl⟩
      rw [hce] at hrun hcl
      have HV : Hid (Value.int .i64 ((c : Int) + 1) = Value.int .i64 ((cntN (ns ++ p.take k) s : Int) + 1)) := by show _ = _; rw [hce]
      have hcb : c ≤ 999999 := by omega
      have hl2 : (ns ++ p.take k).length < 1000000 := by rw [List.length_append, List.length_take]; omega
      have L2 : Hid _ := hl2
      have SZ : Hid _ := hsz
      clear hce hCk hcl hl2 hsz
      go_wp2_with (at_mapUpdate; refine wpList_count rfl _ _ _ rfl mb (n + k) (ns ++ p.take k) s SZ.out rfl CK.out (by omega) L2.out rfl HV.out ?_)
      intro w1 hC1 hF1
      have CN : Hid (CM w1 mb (n + (k + 1)) (ns ++ p.take (k + 1))) := by
        show CM _ _ _ _
        rw [TS.out, ← Nat.add_assoc]; first | exact hC1 | (rw [← List.append_assoc]; exact hC1)
      have F1 : Hid (Fr mb (w.alloc (.cells #[.slice aa al ac, .map (some mb)] 102)) w1) := F.out.trans hF1
      clear hC1 hF1 hrun cm ck CK
      go_wp2_with fail
      go_roundw
      case rel => exact ⟨k + 1, by omega, by go_num, CN.out, F1.out⟩
      case measure => simp [intOf]; omega
    · have CE : Hid (CM wr mb (n + p.length) (ns ++ p)) := by
        show CM _ _ _ _
        have e : k = p.length := by omega
        have := CK.out
        rw [e, List.take_length] at this; exact this
      clear hCk cm
      go_wp2_with fail
      go_end0
      exact ⟨rfl, CE.out, N.out.trans F.out⟩

/-- Names that may be bound together. -/
def namesB (nm : List ByteArray) : Bool := decide (nm.length ≤ 60) && uniqB nm

set_option maxRecDepth 100000 in
set_option maxHeartbeats 2000000 in
theorem namesOk_any (p : List ByteArray) (xa : Option Addr) (xc : Nat) (w : World) (hz : XLm p) (hX : XA w 0 p xa) :
    Calls Tryd.prog 64 #[.slice xa p.length xc] w fun e w' => e = .returned (.bool (namesB p)) ∧ Ex w w' := by
  have X : Hid (∀ w', Ex w w' → XA w' 0 p xa) := fun _ h => XA_below hX h
  have Z : Hid (XLm p) := hz
  clear hX hz
  obtain ⟨R, hR⟩ : ∃ R, R = namesB p := ⟨_, rfl⟩
  have RR : Hid (R = namesB p) := hR
  rw [← hR]
  clear hR
  by_cases h60 : 60 < p.length
  · have HR : Hid (R = false) := RR.out.trans (by rw [namesB, decide_eq_false (by omega)]; rfl)
    have d1 : decide ((60 : Int) < (p.length : Int)) = true := decide_eq_true (by omega)
    go_enter Tryd.func64, Tryd.ntmps64
    go_wp2_with fail
    go_ret
    exact ⟨ret_b HR.out.symm, Ex.refl _⟩
  have R2 : Hid (R = uniqB p) := RR.out.trans (by rw [namesB, decide_eq_true (by omega)]; rfl)
  have d1 : decide ((60 : Int) < (p.length : Int)) = false := decide_eq_false (by omega)
  have hmm := @run_makeMap Tryd.prog
  clear RR
  go_enter Tryd.func64, Tryd.ntmps64
  go_wp2_with fail
  go_loopw [5, 12] (fun _ i wr => ∃ k : Nat, k ≤ p.length ∧ i = .int .i64 k ∧ CM wr w.heap.size k (p.take k) ∧ (∀ j, j < k → uniqAt p j = true) ∧ Ex w wr) (fun _ i _ => p.length - (intOf i).toNat)
  case atStart => exact ⟨0, Nat.zero_le _, rfl, by rw [List.take_zero]; exact CM_made w, fun j hj => by omega, Ex.new _ _⟩
  case round =>
    obtain ⟨k, hk, rfl, hCk, hall, hx⟩ := hrel
    have CK : Hid _ := hCk
    have A : Hid (∀ j, j < k → uniqAt p j = true) := hall
    have E : Hid (Ex w wr) := hx
    clear hall hx hmm
    by_cases hlt : k < p.length
    · obtain ⟨b, o, rfl, hbs, _, hc⟩ := XA_at (X.out wr E.out) (by omega)
      have ck := hc k hlt
      have hsz := Z.out k hlt
      have TS : Hid (p.take (k + 1) = p.take k ++ [p.getD k ⟨#[]⟩]) := take_snoc hlt
      have U : Hid (uniqAt p k = true → ∀ j, j < k + 1 → uniqAt p j = true) := fun h => upto_succ A.out h
      have V : Hid (uniqAt p k = false → R = false) := fun h => R2.out.trans (uniqB_no hlt h)
      have UA : Hid (uniqAt p k = (wordB (p.getD k ⟨#[]⟩) && !hasB (p.take k) (p.getD k ⟨#[]⟩))) := rfl
      obtain ⟨s, hs⟩ : ∃ s, p.getD k ⟨#[]⟩ = s := ⟨_, rfl⟩
      rw [hs] at ck hsz TS UA
      clear hc hs
      have hrun := hCk.look hsz
      have hcl := cntN_le (p.take k) s
      rw [List.length_take] at hcl
      have HB : Hid (hasB (p.take k) s = decide (cntN (p.take k) s ≠ 0)) := cntN_has _ _
      have HN : Hid (cntN (p.take k ++ [s]) s = cntN (p.take k) s + 1) := by show _ = _; rw [cntN_snoc, if_pos (by simp)]
      obtain ⟨c, hce⟩ : ∃ c, cntN (p.take k) s = c := ⟨_, rfl⟩
      rw [hce] at hrun hcl HB HN
      have HV : Hid (Value.int .i64 ((c : Int) + 1) = Value.int .i64 ((cntN (p.take k) s : Int) + 1)) := by show _ = _; rw [hce]
      have hcb : c ≤ 999999 := by omega
      have hl2 : (p.take k).length < 1000000 := by rw [List.length_take]; omega
      have L2 : Hid _ := hl2
      have SZ : Hid _ := hsz
      clear hce hCk hcl hl2 hsz
      go_wp2_with (at_mapUpdate; refine wpList_count rfl _ _ _ rfl w.heap.size k (p.take k) s SZ.out rfl CK.out (by omega) L2.out rfl HV.out ?_)
      intro w1 hC1 hF1
      have hrun2 := hC1.look SZ.out
      rw [HN.out] at hrun2
      have e2 : ((c + 1 : Nat) : Int) = (c : Int) + 1 := by omega
      rw [e2] at hrun2
      have CN : Hid (CM w1 w.heap.size (k + 1) (p.take (k + 1))) := by
        show CM _ _ _ _
        rw [TS.out]; exact hC1
      have E1 : Hid (Ex w w1) := hF1.to_ex E.out (Nat.le_refl _)
      clear hC1 hF1 hrun CK e2
      by_cases h0 : c = 0
      · have g1 : decide ((1 : Int) < (c : Int) + 1) = false := decide_eq_false (by omega)
        have H0 : Hid (hasB (p.take k) s = false) := HB.out.trans (decide_eq_false (by omega))
        clear h0
        go_wp2_with fail
        refine (nameOk_any s _).mono ?_
        rintro e w2 ⟨rfl, hb2⟩
        cases hw : wordB s with
        | false =>
          have HR : Hid (R = false) := V.out (by rw [UA.out, hw]; rfl)
          go_wp2_with fail
          go_ret
          exact ⟨ret_b HR.out.symm, E1.out.trans hb2⟩
        | true =>
          have HU : Hid _ := U.out (by rw [UA.out, hw, H0.out]; rfl)
          have CE : Hid (CM w2 w.heap.size (k + 1) (p.take (k + 1))) := CN.out.ex hb2
          clear hw
          go_wp2_with fail
          go_roundw
          case rel => exact ⟨k + 1, by omega, by go_num, CE.out, HU.out, E1.out.trans hb2⟩
          case measure => simp [intOf]; omega
      · have g1 : decide ((1 : Int) < (c : Int) + 1) = true := decide_eq_true (by omega)
        have HR : Hid (R = false) := V.out (by rw [UA.out, HB.out, decide_eq_true h0]; simp)
        clear h0
        go_wp2_with fail
        go_ret
        exact ⟨ret_b HR.out.symm, E1.out⟩
    · have HR : Hid (R = true) := R2.out.trans (uniqB_yes fun i hi => A.out i (by omega))
      go_wp2_with fail
      go_ret
      exact ⟨ret_b HR.out.symm, E.out⟩

end Go.Proofs.YthdihpcpobhadaaDoor
