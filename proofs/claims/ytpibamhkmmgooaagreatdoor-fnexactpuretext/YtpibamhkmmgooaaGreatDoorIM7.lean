/- Walks: the program's bindings that are ok. -/
import Derived.Test.YtpibamhkmmgooaaGreatDoorIM6

namespace Go.Proofs.YtpibamhkmmgooaaGreatDoor

open Go.RowKit Go.Deep Go.Maps Go.WideMaps

attribute [local go_sem ↓] Go.wp_at_zero Go.wp_at_succ

set_option maxRecDepth 100000 in
set_option maxHeartbeats 2000000 in
theorem ways_by (ea : Addr) (fs : List PM) (la : Option Addr) (lc mb : Nat) (k : Int) (nm : List ByteArray) (nma : Option Addr) (nmc : Nat) (fn : ByteArray) (ts : TM) (tsa : Option Addr) (tsc : Nat) (tb : BD) (tba : Option Addr) (tbc : Nat) (tz : TM) (tza : Option Addr) (tzc : Nat) (eb : BD) (eba : Option Addr) (ebc : Nat) (ez : TM) (eza : Option Addr) (ezc : Nat) (d : Nat) (r1 r2 : Bool) (w : World) (hT : ∀ w', Ex w w' → Calls Tryz.prog 63 #[.agg #[.slice la fs.length lc, .map (some mb)], .agg #[.slice tba (blen tb) tbc, .slice tza (tlen tz) tzc], .int .i64 d] w' (ErrP ea r1 w')) (hE : ∀ w', Ex w w' → Calls Tryz.prog 63 #[.agg #[.slice la fs.length lc, .map (some mb)], .agg #[.slice eba (blen eb) ebc, .slice eza (tlen ez) ezc], .int .i64 d] w' (ErrP ea r2 w')) :
    Calls Tryz.prog 81 #[.agg #[.slice la fs.length lc, .map (some mb)], .agg #[.int .i64 k, .slice nma nm.length nmc, .string fn, .slice tsa (tlen ts) tsc, .slice tba (blen tb) tbc, .slice tza (tlen tz) tzc, .slice eba (blen eb) ebc, .slice eza (tlen ez) ezc], .int .i64 d] w (ErrP ea (r1 && r2) w) := by
  have HT : Hid _ := hT
  have HE : Hid _ := hE
  have N : Hid (Ex w ((w.alloc (.cells #[.slice la fs.length lc, .map (some mb)] 125)).alloc (.cells #[.int .i64 k, .slice nma nm.length nmc, .string fn, .slice tsa (tlen ts) tsc, .slice tba (blen tb) tbc, .slice tza (tlen tz) tzc, .slice eba (blen eb) ebc, .slice eza (tlen ez) ezc] 66))) := (Ex.new _ _).alloc _
  have C : Hid (∀ w', Ex ((w.alloc (.cells #[.slice la fs.length lc, .map (some mb)] 125)).alloc (.cells #[.int .i64 k, .slice nma nm.length nmc, .string fn, .slice tsa (tlen ts) tsc, .slice tba (blen tb) tbc, .slice tza (tlen tz) tzc, .slice eba (blen eb) ebc, .slice eza (tlen ez) ezc] 66)) w' → w'.cell? ⟨w.heap.size, 0, none⟩ = some (.slice la fs.length lc) ∧ w'.cell? ⟨w.heap.size, 1, none⟩ = some (.map (some mb)) ∧ w'.cell? ⟨w.heap.size + 1, 0, none⟩ = some (.int .i64 k) ∧ w'.cell? ⟨w.heap.size + 1, 1, none⟩ = some (.slice nma nm.length nmc) ∧ w'.cell? ⟨w.heap.size + 1, 2, none⟩ = some (.string fn) ∧ w'.cell? ⟨w.heap.size + 1, 3, none⟩ = some (.slice tsa (tlen ts) tsc) ∧ w'.cell? ⟨w.heap.size + 1, 4, none⟩ = some (.slice tba (blen tb) tbc) ∧ w'.cell? ⟨w.heap.size + 1, 5, none⟩ = some (.slice tza (tlen tz) tzc) ∧ w'.cell? ⟨w.heap.size + 1, 6, none⟩ = some (.slice eba (blen eb) ebc) ∧ w'.cell? ⟨w.heap.size + 1, 7, none⟩ = some (.slice eza (tlen ez) ezc)) := fun w' h => ⟨h.at (by simp), h.at (by simp), h.at (by simp), h.at (by simp), h.at (by simp), h.at (by simp), h.at (by simp), h.at (by simp), h.at (by simp), h.at (by simp)⟩
  clear hT hE
  go_enter Tryz.func81, Tryz.ntmps81
  go_wp2_with fail
  refine Calls.mono (HT.out _ N.out) ?_
  rintro e w1 ⟨rfl, hb1⟩
  have X1 : Hid (Ex ((w.alloc (.cells #[.slice la fs.length lc, .map (some mb)] 125)).alloc (.cells #[.int .i64 k, .slice nma nm.length nmc, .string fn, .slice tsa (tlen ts) tsc, .slice tba (blen tb) tbc, .slice tza (tlen tz) tzc, .slice eba (blen eb) ebc, .slice eza (tlen ez) ezc] 66)) w1) := hb1
  obtain ⟨c0, c1, c2, c3, c4, c5, c6, c7, c8, c9⟩ := C.out w1 hb1
  clear hb1 HT
  cases r1 with
  | false =>
    simp only [errV, Bool.false_eq_true, if_false]
    go_wp2_with fail
    go_ret
    exact ⟨rfl, N.out.trans X1.out⟩
  | true =>
    simp only [errV, if_true]
    go_wp2_with fail
    refine Calls.mono (HE.out _ (N.out.trans X1.out)) ?_
    rintro e w2 ⟨rfl, hb2⟩
    go_wp2_with fail
    go_ret
    exact ⟨by cases r2 <;> rfl, N.out.trans (X1.out.trans hb2)⟩

/-- Behind a binding. -/
def BindingP (ea : Addr) (mb : Nat) (ns nm : List ByteArray) (R : Bool) (w : World) (e : Ending) (w' : World) : Prop := e = .returned (errV ea R) ∧ Fr mb w w' ∧ (R = true → CM w' mb (ns ++ nm).length (ns ++ nm))

set_option maxRecDepth 100000 in
set_option maxHeartbeats 4000000 in
theorem binding_by (ea : Addr) (fs : List PM) (la : Option Addr) (lc mb : Nat) (k : Int) (nm : List ByteArray) (nma : Option Addr) (nmc : Nat) (fn : ByteArray) (ts : TM) (tsa : Option Addr) (tsc : Nat) (tb : BD) (tba : Option Addr) (tbc : Nat) (tz : TM) (tza : Option Addr) (tzc : Nat) (eb : BD) (eba : Option Addr) (ebc : Nat) (ez : TM) (eza : Option Addr) (ezc : Nat) (hl : fs.length ≤ 1000000000) (ns : List ByteArray) (hns : ns.length ≤ 900000) (d : Nat) (hd : d ≤ 1000) (rec : List ByteArray → BD → TM → Bool) (w : World) (hG : w.cell? ⟨0, 0, none⟩ = some (EV ea)) (hC : CM w mb ns.length ns) (hQ : QA w 0 fs la)
    (hN : ∀ w', Fr mb w w' → XA w' 0 nm nma) (hz : XLm nm) (hM : MA w 0 ts tsa) (ht : tlen ts ≤ 1000000000) (htm : TSm ts) (htl : TLm ts) (h60 : (arityR fs fn).1 ≤ 60)
    (hT : ∀ w', Ex w w' → Calls Tryz.prog 63 #[.agg #[.slice la fs.length lc, .map (some mb)], .agg #[.slice tba (blen tb) tbc, .slice tza (tlen tz) tzc], .int .i64 d] w' (ErrP ea (rec ns tb tz) w')) (hE : ∀ w', Ex w w' → Calls Tryz.prog 63 #[.agg #[.slice la fs.length lc, .map (some mb)], .agg #[.slice eba (blen eb) ebc, .slice eza (tlen ez) ezc], .int .i64 d] w' (ErrP ea (rec ns eb ez) w')) :
    Calls Tryz.prog 73 #[.agg #[.slice la fs.length lc, .map (some mb)], .agg #[.int .i64 k, .slice nma nm.length nmc, .string fn, .slice tsa (tlen ts) tsc, .slice tba (blen tb) tbc, .slice tza (tlen tz) tzc, .slice eba (blen eb) ebc, .slice eza (tlen ez) ezc], .int .i64 (d + 1 : Nat)] w (BindingP ea mb ns nm (bindB fs rec ns k nm fn ts tb tz eb ez) w) := by
  have G : Hid (∀ w', Ex w w' → w'.cell? ⟨0, 0, none⟩ = some (EV ea)) := fun w' h => h.at hG
  have CC : Hid (∀ w', Ex w w' → CM w' mb ns.length ns) := fun w' h => hC.ex h
  have Q : Hid (∀ w', Ex w w' → QA w' 0 fs la) := fun _ h => QA_below hQ h
  have XN : Hid (∀ w', Fr mb w w' → XA w' 0 nm nma) := hN
  have ZN : Hid (XLm nm) := hz
  have TT : Hid (∀ w', Ex w w' → Calls Tryz.prog 74 #[.agg #[.slice la fs.length lc, .map (some mb)], .slice tsa (tlen ts) tsc, .int .i64 8] w' (ErrP ea (kidsB ns 8 ts) w')) := fun w' h => terms_any ea la fs.length lc mb ns.length ns 8 ts tsa tsc w' (by omega) (h.at hG) (hC.ex h) (MA_below hM h) ht htm htl
  have WW : Hid (∀ w', Ex w w' → Calls Tryz.prog 81 #[.agg #[.slice la fs.length lc, .map (some mb)], .agg #[.int .i64 k, .slice nma nm.length nmc, .string fn, .slice tsa (tlen ts) tsc, .slice tba (blen tb) tbc, .slice tza (tlen tz) tzc, .slice eba (blen eb) ebc, .slice eza (tlen ez) ezc], .int .i64 d] w' (ErrP ea (rec ns tb tz && rec ns eb ez) w')) := fun w' h => ways_by ea fs la lc mb k nm nma nmc fn ts tsa tsc tb tba tbc tz tza tzc eb eba ebc ez eza ezc d _ _ w' (fun w2 h2 => hT w2 (h.trans h2)) (fun w2 h2 => hE w2 (h.trans h2))
  have N : Hid (Ex w ((w.alloc (.cells #[.slice la fs.length lc, .map (some mb)] 125)).alloc (.cells #[.int .i64 k, .slice nma nm.length nmc, .string fn, .slice tsa (tlen ts) tsc, .slice tba (blen tb) tbc, .slice tza (tlen tz) tzc, .slice eba (blen eb) ebc, .slice eza (tlen ez) ezc] 66))) := (Ex.new _ _).alloc _
  have C : Hid (∀ w', Ex ((w.alloc (.cells #[.slice la fs.length lc, .map (some mb)] 125)).alloc (.cells #[.int .i64 k, .slice nma nm.length nmc, .string fn, .slice tsa (tlen ts) tsc, .slice tba (blen tb) tbc, .slice tza (tlen tz) tzc, .slice eba (blen eb) ebc, .slice eza (tlen ez) ezc] 66)) w' → w'.cell? ⟨w.heap.size, 0, none⟩ = some (.slice la fs.length lc) ∧ w'.cell? ⟨w.heap.size, 1, none⟩ = some (.map (some mb)) ∧ w'.cell? ⟨w.heap.size + 1, 0, none⟩ = some (.int .i64 k) ∧ w'.cell? ⟨w.heap.size + 1, 1, none⟩ = some (.slice nma nm.length nmc) ∧ w'.cell? ⟨w.heap.size + 1, 2, none⟩ = some (.string fn) ∧ w'.cell? ⟨w.heap.size + 1, 3, none⟩ = some (.slice tsa (tlen ts) tsc) ∧ w'.cell? ⟨w.heap.size + 1, 4, none⟩ = some (.slice tba (blen tb) tbc) ∧ w'.cell? ⟨w.heap.size + 1, 5, none⟩ = some (.slice tza (tlen tz) tzc) ∧ w'.cell? ⟨w.heap.size + 1, 6, none⟩ = some (.slice eba (blen eb) ebc) ∧ w'.cell? ⟨w.heap.size + 1, 7, none⟩ = some (.slice eza (tlen ez) ezc)) := fun w' h => ⟨h.at (by simp), h.at (by simp), h.at (by simp), h.at (by simp), h.at (by simp), h.at (by simp), h.at (by simp), h.at (by simp), h.at (by simp), h.at (by simp)⟩
  have HR : Hid (bindB fs rec ns k nm fn ts tb tz eb ez = (namesB nm && (bokB fs k nm fn ts tb tz eb ez && (kidsB ns 8 ts && (if k = 3 then rec ns tb tz && rec ns eb ez else true))))) := bind_bok h60
  have L60 : Hid (namesB nm = true → nm.length ≤ 60) := fun h => by simp only [namesB, Bool.and_eq_true, decide_eq_true_eq] at h; exact h.1
  obtain ⟨R, hR⟩ : ∃ R, R = bindB fs rec ns k nm fn ts tb tz eb ez := ⟨_, rfl⟩
  rw [← hR] at HR ⊢
  obtain ⟨bn, hbn⟩ : ∃ b, namesB nm = b := ⟨_, rfl⟩
  obtain ⟨bk, hbk⟩ : ∃ b, bokB fs k nm fn ts tb tz eb ez = b := ⟨_, rfl⟩
  obtain ⟨bt, hbt⟩ : ∃ b, kidsB ns 8 ts = b := ⟨_, rfl⟩
  obtain ⟨bw, hbw⟩ : ∃ b, (rec ns tb tz && rec ns eb ez) = b := ⟨_, rfl⟩
  have NO : Hid (∀ w', Ex w w' → Calls Tryz.prog 61 #[.slice nma nm.length nmc] w' fun e w'' => e = .returned (.bool bn) ∧ Ex w' w'') := fun w' h => by have := namesOk_any nm nma nmc w' ZN.out (XN.out w' (Fr.of_ex h _)); rw [hbn] at this; exact this
  have BO : Hid (∀ w', Ex w w' → Calls Tryz.prog 80 #[.slice la fs.length lc, .agg #[.int .i64 k, .slice nma nm.length nmc, .string fn, .slice tsa (tlen ts) tsc, .slice tba (blen tb) tbc, .slice tza (tlen tz) tzc, .slice eba (blen eb) ebc, .slice eza (tlen ez) ezc]] w' fun e w'' => e = .returned (.bool bk) ∧ Ex w' w'') := fun w' h => by have := bindOk_any fs la lc hl k nm nma nmc fn ts tsa tsc tb tba tbc tz tza tzc eb eba ebc ez eza ezc w' (Q.out w' h); rw [hbk] at this; exact this
  rw [hbn, hbk, hbt, hbw] at HR
  rw [hbn] at L60
  rw [hbt] at TT
  rw [hbw] at WW
  obtain ⟨D, hD⟩ : ∃ D : Int, D = ((d + 1 : Nat) : Int) := ⟨_, rfl⟩
  rw [← hD]
  have d3 : D - 1 = (d : Int) := by omega
  have d4 : IntKind.i64.wrap (D - 1) = (d : Int) := by rw [d3]; exact IntWalk.i64_in _ (by omega)
  have FL : Hid (∀ w', Ex w w' → R = false → BindingP ea mb ns nm R w (.returned (EV ea)) w') := fun w' h hr => ⟨by rw [hr]; rfl, Fr.of_ex h _, fun h2 => by rw [hr] at h2; cases h2⟩
  clear hR hbn hbk hbt hbw hG hC hQ hN hz hM ht htm htl hT hE hD h60 Q
  go_enter Tryz.func73, Tryz.ntmps73
  go_wp2_with fail
  refine (NO.out _ N.out).mono ?_
  rintro e w1 ⟨rfl, hb1⟩
  have X1 : Hid (Ex ((w.alloc (.cells #[.slice la fs.length lc, .map (some mb)] 125)).alloc (.cells #[.int .i64 k, .slice nma nm.length nmc, .string fn, .slice tsa (tlen ts) tsc, .slice tba (blen tb) tbc, .slice tza (tlen tz) tzc, .slice eba (blen eb) ebc, .slice eza (tlen ez) ezc] 66)) w1) := hb1
  obtain ⟨c0, c1, c2, c3, c4, c5, c6, c7, c8, c9⟩ := C.out w1 hb1
  have g0 := G.out w1 (N.out.trans hb1)
  clear hb1 NO
  cases bn with
  | false =>
    have HV : Hid _ := FL.out w1 (N.out.trans X1.out) HR.out
    go_wp2_with fail
    go_ret
    exact HV.out
  | true =>
    go_wp2_with fail
    refine (BO.out _ (N.out.trans X1.out)).mono ?_
    rintro e w2 ⟨rfl, hb2⟩
    have X2 : Hid (Ex ((w.alloc (.cells #[.slice la fs.length lc, .map (some mb)] 125)).alloc (.cells #[.int .i64 k, .slice nma nm.length nmc, .string fn, .slice tsa (tlen ts) tsc, .slice tba (blen tb) tbc, .slice tza (tlen tz) tzc, .slice eba (blen eb) ebc, .slice eza (tlen ez) ezc] 66)) w2) := X1.out.trans hb2
    clear hb2 BO c0 c1 c2 c3 c4 c5 c6 c7 c8 c9 g0
    obtain ⟨c0, c1, c2, c3, c4, c5, c6, c7, c8, c9⟩ := C.out w2 X2.out
    have g0 := G.out w2 (N.out.trans X2.out)
    cases bk with
    | false =>
      have HV : Hid _ := FL.out w2 (N.out.trans X2.out) HR.out
      go_wp2_with fail
      go_ret
      exact HV.out
    | true =>
      go_wp2_with fail
      refine Calls.mono (TT.out _ (N.out.trans X2.out)) ?_
      rintro e w3 ⟨rfl, hb3⟩
      have X3 : Hid (Ex ((w.alloc (.cells #[.slice la fs.length lc, .map (some mb)] 125)).alloc (.cells #[.int .i64 k, .slice nma nm.length nmc, .string fn, .slice tsa (tlen ts) tsc, .slice tba (blen tb) tbc, .slice tza (tlen tz) tzc, .slice eba (blen eb) ebc, .slice eza (tlen ez) ezc] 66)) w3) := X2.out.trans hb3
      clear hb3 TT c0 c1 c2 c3 c4 c5 c6 c7 c8 c9 g0
      obtain ⟨c0, c1, c2, c3, c4, c5, c6, c7, c8, c9⟩ := C.out w3 X3.out
      cases bt with
      | false =>
        have HV : Hid _ := FL.out w3 (N.out.trans X3.out) HR.out
        simp only [errV, Bool.false_eq_true, if_false]
        go_wp2_with fail
        go_ret
        exact HV.out
      | true =>
        simp only [errV, if_true]
        have BI : Hid (∀ w', Ex w w' → Calls Tryz.prog 62 #[.agg #[.slice la fs.length lc, .map (some mb)], .slice nma nm.length nmc] w' (BindP mb ns.length ns nm w')) := fun w' h => by
          have h6 := L60.out (by first | trivial | rfl)
          exact bind_any la fs.length lc mb ns.length ns nm nma nmc w' (CC.out w' h) (fun w2 h2 => XN.out w2 ((Fr.of_ex h _).trans h2)) ZN.out (by omega) (by omega)
        have FT : Hid (∀ w4 w5, Ex w w4 → R = true → CM w5 mb (ns.length + nm.length) (ns ++ nm) → Fr mb w4 w5 → BindingP ea mb ns nm R w (.returned .nilIface) w5) := fun w4 w5 h hr hc hf => ⟨by rw [hr]; rfl, (Fr.of_ex h _).trans hf, fun _ => by rw [List.length_append]; exact hc⟩
        clear CC XN ZN L60
        by_cases k3 : k = 3
        · have q3 : (k == 3) = true := by rw [beq_iff_eq]; exact k3
          have HW : Hid (R = bw) := HR.out.trans (by rw [if_pos k3]; rfl)
          have K3 : Hid (k = 3) := k3
          clear k3 HR
          go_wp2_with fail
          refine Calls.mono (WW.out _ (N.out.trans X3.out)) ?_
          rintro e w4 ⟨rfl, hb4⟩
          have X4 : Hid (Ex ((w.alloc (.cells #[.slice la fs.length lc, .map (some mb)] 125)).alloc (.cells #[.int .i64 k, .slice nma nm.length nmc, .string fn, .slice tsa (tlen ts) tsc, .slice tba (blen tb) tbc, .slice tza (tlen tz) tzc, .slice eba (blen eb) ebc, .slice eza (tlen ez) ezc] 66)) w4) := X3.out.trans hb4
          clear hb4 WW c0 c1 c2 c3 c4 c5 c6 c7 c8 c9
          obtain ⟨c0, c1, c2, c3, c4, c5, c6, c7, c8, c9⟩ := C.out w4 X4.out
          cases bw with
          | false =>
            have HV : Hid _ := FL.out w4 (N.out.trans X4.out) HW.out
            simp only [errV, Bool.false_eq_true, if_false]
            go_wp2_with fail
            go_ret
            exact HV.out
          | true =>
            simp only [errV, if_true]
            go_wp2_with fail
            refine Calls.mono (BI.out _ (N.out.trans X4.out)) ?_
            rintro e w5 ⟨rfl, hc5, hf5⟩
            have HV : Hid _ := FT.out w4 w5 (N.out.trans X4.out) HW.out hc5 hf5
            clear hc5 hf5
            go_wp2_with fail
            go_ret
            exact HV.out
        · have q3 : (k == 3) = false := by rw [beq_eq_false_iff_ne]; exact k3
          have HW : Hid (R = true) := HR.out.trans (by rw [if_neg k3]; rfl)
          clear HR
          go_wp2_with fail
          refine Calls.mono (BI.out _ (N.out.trans X3.out)) ?_
          rintro e w5 ⟨rfl, hc5, hf5⟩
          have HV : Hid _ := FT.out w3 w5 (N.out.trans X3.out) HW.out hc5 hf5
          clear hc5 hf5
          go_wp2_with fail
          go_ret
          exact HV.out

end Go.Proofs.YtpibamhkmmgooaaGreatDoor
