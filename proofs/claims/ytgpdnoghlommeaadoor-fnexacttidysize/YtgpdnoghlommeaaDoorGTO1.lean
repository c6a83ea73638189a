/- Walks: the program's bindings that are ok. Walks: texts and terms of the laws turned into the program's. -/
import Derived.Test.YtgpdnoghlommeaaDoorGIM6
import Derived.Test.YtgpdnoghlommeaaDoorGSZ1
namespace Go.Proofs.YtgpdnoghlommeaaDoor

open Go.RowKit Go.Deep Go.Maps Go.WideMaps

attribute [local go_sem ↓] Go.wp_at_zero Go.wp_at_succ

set_option maxRecDepth 100000 in
set_option maxHeartbeats 2000000 in
theorem ways_by (ea : Addr) (fs : List PM) (la : Option Addr) (lc mb : Nat) (k : Int) (nm : List ByteArray) (nma : Option Addr) (nmc : Nat) (fn : ByteArray) (ts : TM) (tsa : Option Addr) (tsc : Nat) (tb : BD) (tba : Option Addr) (tbc : Nat) (tz : TM) (tza : Option Addr) (tzc : Nat) (eb : BD) (eba : Option Addr) (ebc : Nat) (ez : TM) (eza : Option Addr) (ezc : Nat) (d : Nat) (r1 r2 : Bool) (w : World) (hT : ∀ w', Ex w w' → Calls Tryd.prog 48 #[.agg #[.slice la fs.length lc, .map (some mb)], .agg #[.slice tba (blen tb) tbc, .slice tza (tlen tz) tzc], .int .i64 d] w' (ErrP ea r1 w')) (hE : ∀ w', Ex w w' → Calls Tryd.prog 48 #[.agg #[.slice la fs.length lc, .map (some mb)], .agg #[.slice eba (blen eb) ebc, .slice eza (tlen ez) ezc], .int .i64 d] w' (ErrP ea r2 w')) :
    Calls Tryd.prog 61 #[.agg #[.slice la fs.length lc, .map (some mb)], .agg #[.int .i64 k, .slice nma nm.length nmc, .string fn, .slice tsa (tlen ts) tsc, .slice tba (blen tb) tbc, .slice tza (tlen tz) tzc, .slice eba (blen eb) ebc, .slice eza (tlen ez) ezc], .int .i64 d] w (ErrP ea (r1 && r2) w) := by
  have HT : Hid _ := hT
  have HE : Hid _ := hE
  have N : Hid (Ex w ((w.alloc (.cells #[.slice la fs.length lc, .map (some mb)] 106)).alloc (.cells #[.int .i64 k, .slice nma nm.length nmc, .string fn, .slice tsa (tlen ts) tsc, .slice tba (blen tb) tbc, .slice tza (tlen tz) tzc, .slice eba (blen eb) ebc, .slice eza (tlen ez) ezc] 55))) := (Ex.new _ _).alloc _
  have C : Hid (∀ w', Ex ((w.alloc (.cells #[.slice la fs.length lc, .map (some mb)] 106)).alloc (.cells #[.int .i64 k, .slice nma nm.length nmc, .string fn, .slice tsa (tlen ts) tsc, .slice tba (blen tb) tbc, .slice tza (tlen tz) tzc, .slice eba (blen eb) ebc, .slice eza (tlen ez) ezc] 55)) w' → w'.cell? ⟨w.heap.size, 0, none⟩ = some (.slice la fs.length lc) ∧ w'.cell? ⟨w.heap.size, 1, none⟩ = some (.map (some mb)) ∧ w'.cell? ⟨w.heap.size + 1, 0, none⟩ = some (.int .i64 k) ∧ w'.cell? ⟨w.heap.size + 1, 1, none⟩ = some (.slice nma nm.length nmc) ∧ w'.cell? ⟨w.heap.size + 1, 2, none⟩ = some (.string fn) ∧ w'.cell? ⟨w.heap.size + 1, 3, none⟩ = some (.slice tsa (tlen ts) tsc) ∧ w'.cell? ⟨w.heap.size + 1, 4, none⟩ = some (.slice tba (blen tb) tbc) ∧ w'.cell? ⟨w.heap.size + 1, 5, none⟩ = some (.slice tza (tlen tz) tzc) ∧ w'.cell? ⟨w.heap.size + 1, 6, none⟩ = some (.slice eba (blen eb) ebc) ∧ w'.cell? ⟨w.heap.size + 1, 7, none⟩ = some (.slice eza (tlen ez) ezc)) := fun w' h => ⟨h.at (by simp), h.at (by simp), h.at (by simp), h.at (by simp), h.at (by simp), h.at (by simp), h.at (by simp), h.at (by simp), h.at (by simp), h.at (by simp)⟩
  clear hT hE
  go_enter Tryd.func61, Tryd.ntmps61
  go_wp2_with fail
  refine Calls.mono (HT.out _ N.out) ?_
  rintro e w1 ⟨rfl, hb1⟩
  have X1 : Hid (Ex ((w.alloc (.cells #[.slice la fs.length lc, .map (some mb)] 106)).alloc (.cells #[.int .i64 k, .slice nma nm.length nmc, .string fn, .slice tsa (tlen ts) tsc, .slice tba (blen tb) tbc, .slice tza (tlen tz) tzc, .slice eba (blen eb) ebc, .slice eza (tlen ez) ezc] 55)) w1) := hb1
  obtain ⟨c0, c1, c2, c3, c4, c5, c6, c7, c8, c9⟩ := C.out w1 hb1
  clear hb1 HT
  cases r1 with
  | false =>
    simp only [errV, Bool.false_eq_true, if_false]
    go_wp2_with fail
    go_ret
    exact ⟨rfl, N.out.trans X1.out⟩
  | true =>
    simp only [errV, if_true]
    go_wp2_with fail
    refine Calls.mono (HE.out _ (N.out.trans X1.out)) ?_
    rintro e w2 ⟨rfl, hb2⟩
    go_wp2_with fail
    go_ret
    exact ⟨by cases r2 <;> rfl, N.out.trans (X1.out.trans hb2)⟩

/-- Behind a binding. -/
def BindingP (ea : Addr) (mb : Nat) (ns nm : List ByteArray) (R : Bool) (w : World) (e : Ending) (w' : World) : Prop := e = .returned (errV ea R) ∧ Fr mb w w' ∧ (R = true → CM w' mb (ns ++ nm).length (ns ++ nm))

set_option maxRecDepth 100000 in
set_option maxHeartbeats 4000000 in
theorem binding_by (ea : Addr) (fs : List PM) (la : Option Addr) (lc mb : Nat) (k : Int) (nm : List ByteArray) (nma : Option Addr) (nmc : Nat) (fn : ByteArray) (ts : TM) (tsa : Option Addr) (tsc : Nat) (tb : BD) (tba : Option Addr) (tbc : Nat) (tz : TM) (tza : Option Addr) (tzc : Nat) (eb : BD) (eba : Option Addr) (ebc : Nat) (ez : TM) (eza : Option Addr) (ezc : Nat) (hl : fs.length ≤ 1000000000) (ns : List ByteArray) (hns : ns.length ≤ 900000) (d : Nat) (hd : d ≤ 1000) (rec : List ByteArray → BD → TM → Bool) (w : World) (hG : w.cell? ⟨0, 0, none⟩ = some (EV ea)) (hC : CM w mb ns.length ns) (hQ : QA w 0 fs la)
    (hN : ∀ w', Fr mb w w' → XA w' 0 nm nma) (hz : XLm nm) (hM : MA w 0 ts tsa) (ht : tlen ts ≤ 1000000000) (htm : TSm ts) (htl : TLm ts) (h60 : (arityR fs fn).1 ≤ 60)
    (hT : ∀ w', Ex w w' → Calls Tryd.prog 48 #[.agg #[.slice la fs.length lc, .map (some mb)], .agg #[.slice tba (blen tb) tbc, .slice tza (tlen tz) tzc], .int .i64 d] w' (ErrP ea (rec ns tb tz) w')) (hE : ∀ w', Ex w w' → Calls Tryd.prog 48 #[.agg #[.slice la fs.length lc, .map (some mb)], .agg #[.slice eba (blen eb) ebc, .slice eza (tlen ez) ezc], .int .i64 d] w' (ErrP ea (rec ns eb ez) w')) :
    Calls Tryd.prog 56 #[.agg #[.slice la fs.length lc, .map (some mb)], .agg #[.int .i64 k, .slice nma nm.length nmc, .string fn, .slice tsa (tlen ts) tsc, .slice tba (blen tb) tbc, .slice tza (tlen tz) tzc, .slice eba (blen eb) ebc, .slice eza (tlen ez) ezc], .int .i64 (d + 1 : Nat)] w (BindingP ea mb ns nm (bindB fs rec ns k nm fn ts tb tz eb ez) w) := by
  have G : Hid (∀ w', Ex w w' → w'.cell? ⟨0, 0, none⟩ = some (EV ea)) := fun w' h => h.at hG
  have CC : Hid (∀ w', Ex w w' → CM w' mb ns.length ns) := fun w' h => hC.ex h
  have Q : Hid (∀ w', Ex w w' → QA w' 0 fs la) := fun _ h => QA_below hQ h
  have XN : Hid (∀ w', Fr mb w w' → XA w' 0 nm nma) := hN
  have ZN : Hid (XLm nm) := hz
  have TT : Hid (∀ w', Ex w w' → Calls Tryd.prog 57 #[.agg #[.slice la fs.length lc, .map (some mb)], .slice tsa (tlen ts) tsc, .int .i64 8] w' (ErrP ea (kidsB ns 8 ts) w')) := fun w' h => terms_any ea la fs.length lc mb ns.length ns 8 ts tsa tsc w' (by omega) (h.at hG) (hC.ex h) (MA_below hM h) ht htm htl
  have WW : Hid (∀ w', Ex w w' → Calls Tryd.prog 61 #[.agg #[.slice la fs.length lc, .map (some mb)], .agg #[.int .i64 k, .slice nma nm.length nmc, .string fn, .slice tsa (tlen ts) tsc, .slice tba (blen tb) tbc, .slice tza (tlen tz) tzc, .slice eba (blen eb) ebc, .slice eza (tlen ez) ezc], .int .i64 d] w' (ErrP ea (rec ns tb tz && rec ns eb ez) w')) := fun w' h => ways_by ea fs la lc mb k nm nma nmc fn ts tsa tsc tb tba tbc tz tza tzc eb eba ebc ez eza ezc d _ _ w' (fun w2 h2 => hT w2 (h.trans h2)) (fun w2 h2 => hE w2 (h.trans h2))
  have N : Hid (Ex w ((w.alloc (.cells #[.slice la fs.length lc, .map (some mb)] 106)).alloc (.cells #[.int .i64 k, .slice nma nm.length nmc, .string fn, .slice tsa (tlen ts) tsc, .slice tba (blen tb) tbc, .slice tza (tlen tz) tzc, .slice eba (blen eb) ebc, .slice eza (tlen ez) ezc] 55))) := (Ex.new _ _).alloc _
  have C : Hid (∀ w', Ex ((w.alloc (.cells #[.slice la fs.length lc, .map (some mb)] 106)).alloc (.cells #[.int .i64 k, .slice nma nm.length nmc, .string fn, .slice tsa (tlen ts) tsc, .slice tba (blen tb) tbc, .slice tza (tlen tz) tzc, .slice eba (blen eb) ebc, .slice eza (tlen ez) ezc] 55)) w' → w'.cell? ⟨w.heap.size, 0, none⟩ = some (.slice la fs.length lc) ∧ w'.cell? ⟨w.heap.size, 1, none⟩ = some (.map (some mb)) ∧ w'.cell? ⟨w.heap.size + 1, 0, none⟩ = some (.int .i64 k) ∧ w'.cell? ⟨w.heap.size + 1, 1, none⟩ = some (.slice nma nm.length nmc) ∧ w'.cell? ⟨w.heap.size + 1, 2, none⟩ = some (.string fn) ∧ w'.cell? ⟨w.heap.size + 1, 3, none⟩ = some (.slice tsa (tlen ts) tsc) ∧ w'.cell? ⟨w.heap.size + 1, 4, none⟩ = some (.slice tba (blen tb) tbc) ∧ w'.cell? ⟨w.heap.size + 1, 5, none⟩ = some (.slice tza (tlen tz) tzc) ∧ w'.cell? ⟨w.heap.size + 1, 6, none⟩ = some (.slice eba (blen eb) ebc) ∧ w'.cell? ⟨w.heap.size + 1, 7, none⟩ = some (.slice eza (tlen ez) ezc)) := fun w' h => ⟨h.at (by simp), h.at (by simp), h.at (by simp), h.at (by simp), h.at (by simp), h.at (by simp), h.at (by simp), h.at (by simp), h.at (by simp), h.at (by simp)⟩
  have HR : Hid (bindB fs rec ns k nm fn ts tb tz eb ez = (namesB nm && (bokB fs k nm fn ts tb tz eb ez && (kidsB ns 8 ts && (if k = 3 then rec ns tb tz && rec ns eb ez else true))))) := bind_bok h60
  have L60 : Hid (namesB nm = true → nm.length ≤ 60) := fun h => by simp only [namesB, Bool.and_eq_true, decide_eq_true_eq] at h; exact h.1
  obtain ⟨R, hR⟩ : ∃ R, R = bindB fs rec ns k nm fn ts tb tz eb ez := ⟨_, rfl⟩
  rw [← hR] at HR ⊢
  obtain ⟨bn, hbn⟩ : ∃ b, namesB nm = b := ⟨_, rfl⟩
  obtain ⟨bk, hbk⟩ : ∃ b, bokB fs k nm fn ts tb tz eb ez = b := ⟨_, rfl⟩
  obtain ⟨bt, hbt⟩ : ∃ b, kidsB ns 8 ts = b := ⟨_, rfl⟩
  obtain ⟨bw, hbw⟩ : ∃ b, (rec ns tb tz && rec ns eb ez) = b := ⟨_, rfl⟩
  have NO : Hid (∀ w', Ex w w' → Calls Tryd.prog 46 #[.slice nma nm.length nmc] w' fun e w'' => e = .returned (.bool bn) ∧ Ex w' w'') := fun w' h => by have := namesOk_any nm nma nmc w' ZN.out (XN.out w' (Fr.of_ex h _)); rw [hbn] at this; exact this
  have BO : Hid (∀ w', Ex w w' → Calls Tryd.prog 60 #[.slice la fs.length lc, .agg #[.int .i64 k, .slice nma nm.length nmc, .string fn, .slice tsa (tlen ts) tsc, .slice tba (blen tb) tbc, .slice tza (tlen tz) tzc, .slice eba (blen eb) ebc, .slice eza (tlen ez) ezc]] w' fun e w'' => e = .returned (.bool bk) ∧ Ex w' w'') := fun w' h => by have := bindOk_any fs la lc hl k nm nma nmc fn ts tsa tsc tb tba tbc tz tza tzc eb eba ebc ez eza ezc w' (Q.out w' h); rw [hbk] at this; exact this
  rw [hbn, hbk, hbt, hbw] at HR
  rw [hbn] at L60
  rw [hbt] at TT
  rw [hbw] at WW
  obtain ⟨D, hD⟩ : ∃ D : Int, D = ((d + 1 : Nat) : Int) := ⟨_, rfl⟩
  rw [← hD]
  have d3 : D - 1 = (d : Int) := by omega
  have d4 : IntKind.i64.wrap (D - 1) = (d : Int) := by rw [d3]; exact IntWalk.i64_in _ (by omega)
  have FL : Hid (∀ w', Ex w w' → R = false → BindingP ea mb ns nm R w (.returned (EV ea)) w') := fun w' h hr => ⟨by rw [hr]; rfl, Fr.of_ex h _, fun h2 => by rw [hr] at h2; cases h2⟩
  clear hR hbn hbk hbt hbw hG hC hQ hN hz hM ht htm htl hT hE hD h60 Q
  go_enter Tryd.func56, Tryd.ntmps56
  go_wp2_with fail
  refine (NO.out _ N.out).mono ?_
  rintro e w1 ⟨rfl, hb1⟩
  have X1 : Hid (Ex ((w.alloc (.cells #[.slice la fs.length lc, .map (some mb)] 106)).alloc (.cells #[.int .i64 k, .slice nma nm.length nmc, .string fn, .slice tsa (tlen ts) tsc, .slice tba (blen tb) tbc, .slice tza (tlen tz) tzc, .slice eba (blen eb) ebc, .slice eza (tlen ez) ezc] 55)) w1) := hb1
  obtain ⟨c0, c1, c2, c3, c4, c5, c6, c7, c8, c9⟩ := C.out w1 hb1
  have g0 := G.out w1 (N.out.trans hb1)
  clear hb1 NO
  cases bn with
  | false =>
    have HV : Hid _ := FL.out w1 (N.out.trans X1.out) HR.out
    go_wp2_with fail
    go_ret
    exact HV.out
  | true =>
    go_wp2_with fail
    refine (BO.out _ (N.out.trans X1.out)).mono ?_
    rintro e w2 ⟨rfl, hb2⟩
    have X2 : Hid (Ex ((w.alloc (.cells #[.slice la fs.length lc, .map (some mb)] 106)).alloc (.cells #[.int .i64 k, .slice nma nm.length nmc, .string fn, .slice tsa (tlen ts) tsc, .slice tba (blen tb) tbc, .slice tza (tlen tz) tzc, .slice eba (blen eb) ebc, .slice eza (tlen ez) ezc] 55)) w2) := X1.out.trans hb2
    clear hb2 BO c0 c1 c2 c3 c4 c5 c6 c7 c8 c9 g0
    obtain ⟨c0, c1, c2, c3, c4, c5, c6, c7, c8, c9⟩ := C.out w2 X2.out
    have g0 := G.out w2 (N.out.trans X2.out)
    cases bk with
    | false =>
      have HV : Hid _ := FL.out w2 (N.out.trans X2.out) HR.out
      go_wp2_with fail
      go_ret
      exact HV.out
    | true =>
      go_wp2_with fail
      refine Calls.mono (TT.out _ (N.out.trans X2.out)) ?_
      rintro e w3 ⟨rfl, hb3⟩
      have X3 : Hid (Ex ((w.alloc (.cells #[.slice la fs.length lc, .map (some mb)] 106)).alloc (.cells #[.int .i64 k, .slice nma nm.length nmc, .string fn, .slice tsa (tlen ts) tsc, .slice tba (blen tb) tbc, .slice tza (tlen tz) tzc, .slice eba (blen eb) ebc, .slice eza (tlen ez) ezc] 55)) w3) := X2.out.trans hb3
      clear hb3 TT c0 c1 c2 c3 c4 c5 c6 c7 c8 c9 g0
      obtain ⟨c0, c1, c2, c3, c4, c5, c6, c7, c8, c9⟩ := C.out w3 X3.out
      cases bt with
      | false =>
        have HV : Hid _ := FL.out w3 (N.out.trans X3.out) HR.out
        simp only [errV, Bool.false_eq_true, if_false]
        go_wp2_with fail
        go_ret
        exact HV.out
      | true =>
        simp only [errV, if_true]
        have BI : Hid (∀ w', Ex w w' → Calls Tryd.prog 47 #[.agg #[.slice la fs.length lc, .map (some mb)], .slice nma nm.length nmc] w' (BindP mb ns.length ns nm w')) := fun w' h => by
          have h6 := L60.out (by first | trivial | rfl)
          exact bind_any la fs.length lc mb ns.length ns nm nma nmc w' (CC.out w' h) (fun w2 h2 => XN.out w2 ((Fr.of_ex h _).trans h2)) ZN.out (by omega) (by omega)
        have FT : Hid (∀ w4 w5, Ex w w4 → R = true → CM w5 mb (ns.length + nm.length) (ns ++ nm) → Fr mb w4 w5 → BindingP ea mb ns nm R w (.returned .nilIface) w5) := fun w4 w5 h hr hc hf => ⟨by rw [hr]; rfl, (Fr.of_ex h _).trans hf, fun _ => by rw [List.length_append]; exact hc⟩
        clear CC XN ZN L60
        by_cases k3 : k = 3
        · have q3 : (k == 3) = true := by rw [beq_iff_eq]; exact k3
          have HW : Hid (R = bw) := HR.out.trans (by rw [if_pos k3]; rfl)
          have K3 : Hid (k = 3) := k3
          clear k3 HR
          go_wp2_with fail
          refine Calls.mono (WW.out _ (N.out.trans X3.out)) ?_
          rintro e w4 ⟨rfl, hb4⟩
          have X4 : Hid (Ex ((w.alloc (.cells #[.slice la fs.length lc, .map (some mb)] 106)).alloc (.cells #[.int .i64 k, .slice nma nm.length nmc, .string fn, .slice tsa (tlen ts) tsc, .slice tba (blen tb) tbc, .slice tza (tlen tz) tzc, .slice eba (blen eb) ebc, .slice eza (tlen ez) ezc] 55)) w4) := X3.out.trans hb4
          clear hb4 WW c0 c1 c2 c3 c4 c5 c6 c7 c8 c9
          obtain ⟨c0, c1, c2, c3, c4, c5, c6, c7, c8, c9⟩ := C.out w4 X4.out
          cases bw with
          | false =>
            have HV : Hid _ := FL.out w4 (N.out.trans X4.out) HW.out
            simp only [errV, Bool.false_eq_true, if_false]
            go_wp2_with fail
            go_ret
            exact HV.out
          | true =>
            simp only [errV, if_true]
            go_wp2_with fail
            refine Calls.mono (BI.out _ (N.out.trans X4.out)) ?_
            rintro e w5 ⟨rfl, hc5, hf5⟩
            have HV : Hid _ := FT.out w4 w5 (N.out.trans X4.out) HW.out hc5 hf5
            clear hc5 hf5
            go_wp2_with fail
            go_ret
            exact HV.out
        · have q3 : (k == 3) = false := by rw [beq_eq_false_iff_ne]; exact k3
          have HW : Hid (R = true) := HR.out.trans (by rw [if_neg k3]; rfl)
          clear HR
          go_wp2_with fail
          refine Calls.mono (BI.out _ (N.out.trans X3.out)) ?_
          rintro e w5 ⟨rfl, hc5, hf5⟩
          have HV : Hid _ := FT.out w3 w5 (N.out.trans X3.out) HW.out hc5 hf5
          clear hc5 hf5
          go_wp2_with fail
          go_ret
          exact HV.out

end Go.Proofs.YtgpdnoghlommeaaDoor

namespace Go.Proofs.YtgpdnoghlommeaaDoor

open Go.RowKit Go.Deep

attribute [local go_sem ↓] Go.wp_at_zero Go.wp_at_succ

theorem toInts_any (p : List Int) (a : Option Addr) (c : Nat) (w : World) (hl : p.length ≤ 1000000000) (hP : PA w 0 p a) :
    Calls Tryd.prog 53 #[.slice a p.length c] w fun e w' => ∃ a', e = .returned (.slice a' p.length p.length) ∧ PA w' w.heap.size p a' ∧ Ex w w' :=
  (toIntS_any p a c 0 w hl hP).mono fun _ _ ⟨h1, h2, h3⟩ => ⟨_, h1, h2.pa (Nat.le_refl _), h3⟩

theorem Tryd.info9 : (Tryd.prog.info? 9).map (fun i => (i.zero, i.size, i.bytes)) = some (some (.string ⟨#[]⟩), 1, 16) := by kernel_rfl

set_option maxRecDepth 100000 in
set_option maxHeartbeats 2000000 in
theorem toTexts_any (xs : List ByteArray) (a : Option Addr) (c : Nat) (w : World) (hl : xs.length ≤ 1000000000) (hP : XA w 0 xs a) :
    Calls Tryd.prog 22 #[.slice a xs.length c] w fun e w' => ∃ a', e = .returned (.slice a' xs.length xs.length) ∧ XA w' w.heap.size xs a' ∧ Ex w w' := by
  have P : Hid (∀ w', Ex w w' → XA w' 0 xs a) := fun _ h => XA_below hP h
  clear hP
  obtain ⟨i0, hi, hz0, hz1, hz2⟩ := info_parts Tryd.info9
  have hmk : ∀ w : World, (Instr.makeSlice 30 (.int .i64 (xs.length : Int)) (.int .i64 (xs.length : Int))).run Tryd.prog w = .ok (.slice (some ⟨w.heap.size, 0, none⟩) xs.length xs.length) (w.alloc (.cells (madeCells #[.string ⟨#[]⟩] xs.length) 9)) := fun w => by
    have := run_make (P := Tryd.prog) w 30 9 i0 _ Tryd.underlying30 hi hz0 .i64 .i64 (xs.length : Int) (xs.length : Int) (by omega) (by omega) (by rw [hz2]; omega) (by omega)
    rw [hz1] at this
    simpa [Value.cells] using this
  clear hz0 hz1 hz2 hi
  go_enter Tryd.func22, Tryd.ntmps22
  go_wp2_with fail
  go_loopw [4] (fun i wr => ∃ (k : Nat) (cur : Array Value), k ≤ xs.length ∧ i = .int .i64 k ∧ Ex w wr ∧ wr.heap[w.heap.size]? = some (.cells cur 9 (0, 0)) ∧ cur.size = xs.length ∧ (∀ j, j < k → cur[j]? = some (.string (xs.getD j ⟨#[]⟩)))) (fun i _ => xs.length - (intOf i).toNat)
  case atStart => exact ⟨0, madeCells #[.string ⟨#[]⟩] xs.length, Nat.zero_le _, rfl, Ex.new _ _, heap_alloc_new _ _, size_madeCells _ _, fun j hj => by omega⟩
  case round =>
    obtain ⟨k, cur, hk, rfl, hx, hob, hcs, hkids⟩ := hrel
    have KI : Hid _ := hkids
    have HCS : Hid (cur.size = xs.length) := hcs
    clear hkids hcs
    by_cases hlt : k < xs.length
    · obtain ⟨b, o, rfl, hbs, _, hkk⟩ := XA_at (P.out wr hx) (by omega)
      have hc1 := hkk k hlt
      obtain ⟨t, ht⟩ : ∃ t, xs.getD k ⟨#[]⟩ = t := ⟨_, rfl⟩
      rw [ht] at hc1
      have HT : Hid (xs.getD k ⟨#[]⟩ = t) := ht
      clear hkk ht
      have cc : wr.cell? ⟨w.heap.size, k, none⟩ = some (cur[k]'(by have := HCS.out; omega)) := by simp [World.cell?, hob]
      have cf : wr.frozen? ⟨w.heap.size, k, none⟩ = false := by simp [World.frozen?, hob]
      go_wp2_with fail
      go_roundw
      case rel =>
        refine ⟨k + 1, cur.setIfInBounds k (.string t), by omega, by go_num, hx.set (Nat.le_refl _) _, blk_set hob _, by simp [HCS.out], fun j hj => ?_⟩
        by_cases hj' : j < k
        · rw [Array.getElem?_setIfInBounds_ne (by omega)]; exact KI.out j hj'
        · have e : j = k := by omega
          subst e
          rw [Array.getElem?_setIfInBounds_self, HT.out, if_pos (by have := HCS.out; omega)]
      case measure => simp [intOf]; omega
    · go_wp2_with fail
      go_ret
      exact ⟨_, rfl, Or.inr ⟨w.heap.size, 0, rfl, Nat.le_refl _, fun i hi => by rw [blk_cell hob, Nat.zero_add]; exact KI.out i (by omega)⟩, hx⟩

theorem MT_of {w w' : World} {S : Nat → Prop} {f : TM} {i b o : Nat} (hc : ∀ q v, q < 5 → w.cell? ⟨b, o + q, none⟩ = some v → w'.cell? ⟨b, o + q, none⟩ = some v) (hk : Ks S w w') (h : MT w S f i b o) : MT w' S f i b o := by
  obtain ⟨h0, h1, h2, ⟨pa, pc, h3, h4⟩, a, cap, h5, h6⟩ := h
  exact ⟨hc 0 _ (by omega) h0, hc 1 _ (by omega) h1, hc 2 _ (by omega) h2, ⟨pa, pc, hc 3 _ (by omega) h3, PS_ks h4.1 hk, h4.2⟩, a, cap, hc 4 _ (by omega) h5, MS_ks h6 hk⟩
theorem MT_mono {w : World} {S S' : Nat → Prop} (hl : ∀ b, b < w.heap.size → S b → S' b) {f : TM} {i b o : Nat} (h : MT w S f i b o) : MT w S' f i b o := by
  obtain ⟨h0, h1, h2, ⟨pa, pc, h3, h4⟩, a, cap, h5, h6⟩ := h
  exact ⟨h0, h1, h2, ⟨pa, pc, h3, PS_mono h4.1 hl, h4.2⟩, a, cap, h5, MS_mono h6 hl⟩

theorem Tryd.info87 : (Tryd.prog.info? 87).map (fun i => (i.zero, i.size, i.bytes)) = some (some (.agg #[.int .i64 0, .int .i64 0, .string ⟨#[]⟩, .slice none 0 0, .slice none 0 0]), 5, 80) := by kernel_rfl

set_option maxRecDepth 100000 in
set_option maxHeartbeats 4000000 in
theorem toTermS_by (f : TM) (a : Option Addr) (c : Nat) (w : World) (hl : tlen f ≤ 1000000000) (hz : TSm f) (hT : MA w 0 f a)
    (hK : ∀ j, j < tlen f → ∀ (pa : Option Addr) (pc : Nat) (a' : Option Addr) (c' : Nat) (w' : World), Ex w w' → PA w' 0 (tpath f j) pa → MA w' 0 (tkid f j) a' → Calls Tryd.prog 43 #[.agg #[.int .i64 (tkind f j), .int .i64 (tnum f j), .string (tname f j), .slice pa (tpath f j).length pc, .slice a' (tlen (tkid f j)) c']] w' fun e w'' => ∃ p2 a2, e = .returned (.agg #[.int .i64 (tkind f j), .int .i64 (tnum f j), .string (tname f j), .slice p2 (tpath f j).length (tpath f j).length, .slice a2 (tlen (tkid f j)) (tlen (tkid f j))]) ∧ PA w'' w'.heap.size (tpath f j) p2 ∧ MA w'' w'.heap.size (tkid f j) a2 ∧ Ex w' w'') :
    Calls Tryd.prog 33 #[.slice a (tlen f) c] w fun e w' => ∃ a', e = .returned (.slice a' (tlen f) (tlen f)) ∧ MA w' w.heap.size f a' ∧ Ex w w' := by
  have T : Hid (∀ w', Ex w w' → MA w' 0 f a) := fun _ h => MA_below hT h
  have I : Hid _ := hK
  have ZS : Hid (TSm f) := hz
  clear hT hK hz
  obtain ⟨i0, hi, hz0, hz1, hz2⟩ := info_parts Tryd.info87
  have hmk : ∀ w : World, (Instr.makeSlice 40 (.int .i64 (tlen f : Int)) (.int .i64 (tlen f : Int))).run Tryd.prog w = .ok (.slice (some ⟨w.heap.size, 0, none⟩) (tlen f) (tlen f)) (w.alloc (.cells (madeCells #[.int .i64 0, .int .i64 0, .string ⟨#[]⟩, .slice none 0 0, .slice none 0 0] (tlen f * 5)) 87)) := fun w => by
    have := run_make (P := Tryd.prog) w 40 87 i0 _ Tryd.underlying40 hi hz0 .i64 .i64 (tlen f : Int) (tlen f : Int) (by omega) (by omega) (by rw [hz2]; omega) (by omega)
    rw [hz1] at this
    simpa [Value.cells] using this
  clear hz0 hz1 hz2 hi
  go_enter Tryd.func33, Tryd.ntmps33
  go_wp2_with fail
  go_loopw [4] (fun i wr => ∃ (k : Nat) (cur : Array Value), k ≤ tlen f ∧ i = .int .i64 k ∧ Ex w wr ∧ wr.heap[w.heap.size]? = some (.cells cur 87 (0, 0)) ∧ cur.size = tlen f * 5 ∧ (∀ j, j < k → MT wr (fun b => w.heap.size < b) f j w.heap.size (0 + j * 5))) (fun i _ => tlen f - (intOf i).toNat)
  case atStart => exact ⟨0, madeCells #[.int .i64 0, .int .i64 0, .string ⟨#[]⟩, .slice none 0 0, .slice none 0 0] (tlen f * 5), Nat.zero_le _, rfl, Ex.new _ _, heap_alloc_new _ _, size_madeCells _ _, fun j hj => by omega⟩
  case round =>
    obtain ⟨j, cur, hk, rfl, hx, hob, hcs, hkids⟩ := hrel
    have KI : Hid _ := hkids
    have HCS : Hid (cur.size = tlen f * 5) := hcs
    have X : Hid (Ex w wr) := hx
    have OB : Hid (wr.heap[w.heap.size]? = some (.cells cur 87 (0, 0))) := hob
    clear hkids hcs hx hob
    by_cases hlt : j < tlen f
    · obtain ⟨b, o, rfl, _, hbs, hkk⟩ := MA_at (T.out wr X.out) (by omega)
      obtain ⟨e0, e1, e2, ⟨pa, pc, e3, hp'⟩, a', c', e4, hm'⟩ := hkk j hlt
      have HI : Hid _ := I.out j hlt pa pc a' c' wr X.out hp'.1 hm'
      have SZP : Hid ((tpath f j).length ≤ 9223372036854775807) := by
        have := (TSm_kid ZS.out j hlt).1
        show _ ≤ _
        omega
      clear hk hkk hp' hm'
      go_wp2_with fail
      refine Calls.mono HI.out ?_
      rintro e w1 ⟨p2, a2, rfl, yp, ym, hb1⟩
      have hob1 := hb1.blk OB.out
      have cc0 : w1.cell? ⟨w.heap.size, j * 5, none⟩ = some (cur[j * 5]'(by have := HCS.out; omega)) := by simp [World.cell?, hob1]
      have cc1 : w1.cell? ⟨w.heap.size, j * 5 + 1, none⟩ = some (cur[j * 5 + 1]'(by have := HCS.out; omega)) := by simp [World.cell?, hob1]
      have cc2 : w1.cell? ⟨w.heap.size, j * 5 + 2, none⟩ = some (cur[j * 5 + 2]'(by have := HCS.out; omega)) := by simp [World.cell?, hob1]
      have cc3 : w1.cell? ⟨w.heap.size, j * 5 + 3, none⟩ = some (cur[j * 5 + 3]'(by have := HCS.out; omega)) := by simp [World.cell?, hob1]
      have cc4 : w1.cell? ⟨w.heap.size, j * 5 + 4, none⟩ = some (cur[j * 5 + 4]'(by have := HCS.out; omega)) := by simp [World.cell?, hob1]
      have cf0 : w1.frozen? ⟨w.heap.size, j * 5, none⟩ = false := by simp [World.frozen?, hob1]
      have cf1 : w1.frozen? ⟨w.heap.size, j * 5 + 1, none⟩ = false := by simp [World.frozen?, hob1]
      have cf2 : w1.frozen? ⟨w.heap.size, j * 5 + 2, none⟩ = false := by simp [World.frozen?, hob1]
      have cf3 : w1.frozen? ⟨w.heap.size, j * 5 + 3, none⟩ = false := by simp [World.frozen?, hob1]
      have cf4 : w1.frozen? ⟨w.heap.size, j * 5 + 4, none⟩ = false := by simp [World.frozen?, hob1]
      have zr : w.heap.size < wr.heap.size := lt_of_block OB.out
      have B1 : Hid _ := hb1
      have OB1 : Hid _ := hob1
      have YP : Hid (PA w1 wr.heap.size (tpath f j) p2) := yp
      have YM : Hid (MA w1 wr.heap.size (tkid f j) a2) := ym
      clear yp ym
      clear hob1 hb1 HI
      go_wp2_with fail
      go_roundw
      case rel =>
        have hb1 := B1.out
        have hob1 := OB1.out
        have hQ : Ks (fun b => w.heap.size < b) w1 (setL w1 w.heap.size (j * 5) [.int .i64 (tkind f j), .int .i64 (tnum f j), .string (tname f j), .slice p2 (tpath f j).length (tpath f j).length, .slice a2 (tlen (tkid f j)) (tlen (tkid f j))]) := fun b hb _ => setL_other _ (by have : w.heap.size < b := hb; omega)
        refine ⟨j + 1, setA cur (j * 5) [.int .i64 (tkind f j), .int .i64 (tnum f j), .string (tname f j), .slice p2 (tpath f j).length (tpath f j).length, .slice a2 (tlen (tkid f j)) (tlen (tkid f j))], by omega, by go_num, setL_ex [.int .i64 (tkind f j), .int .i64 (tnum f j), .string (tname f j), .slice p2 (tpath f j).length (tpath f j).length, .slice a2 (tlen (tkid f j)) (tlen (tkid f j))] (X.out.trans hb1) (Nat.le_refl _), setL_blk [.int .i64 (tkind f j), .int .i64 (tnum f j), .string (tname f j), .slice p2 (tpath f j).length (tpath f j).length, .slice a2 (tlen (tkid f j)) (tlen (tkid f j))] hob1, by rw [setA_size]; exact HCS.out, fun i hi => ?_⟩
        show MT (setL w1 w.heap.size (j * 5) [.int .i64 (tkind f j), .int .i64 (tnum f j), .string (tname f j), .slice p2 (tpath f j).length (tpath f j).length, .slice a2 (tlen (tkid f j)) (tlen (tkid f j))]) (fun b => w.heap.size < b) f i w.heap.size (0 + i * 5)
        have hbk := setL_blk (o := j * 5) [.int .i64 (tkind f j), .int .i64 (tnum f j), .string (tname f j), .slice p2 (tpath f j).length (tpath f j).length, .slice a2 (tlen (tkid f j)) (tlen (tkid f j))] hob1
        by_cases hj' : i < j
        · have h1 := MT_of (w' := w1) (fun q v _ hv => Ex.at hb1 hv) (fun b _ hlt' => hb1.block b hlt') (KI.out i hj')
          exact MT_of (fun q v hq hv => by rw [blk_cell hbk, setA_out _ _ _ _ (Or.inl (by omega)), ← blk_cell hob1]; exact hv) hQ h1
        · have e : j = i := by omega
          subst e
          have hsz := HCS.out
          have hc : ∀ q v, ([.int .i64 (tkind f j), .int .i64 (tnum f j), .string (tname f j), .slice p2 (tpath f j).length (tpath f j).length, .slice a2 (tlen (tkid f j)) (tlen (tkid f j))] : List Value)[q]? = some v → (setL w1 w.heap.size (j * 5) [.int .i64 (tkind f j), .int .i64 (tnum f j), .string (tname f j), .slice p2 (tpath f j).length (tpath f j).length, .slice a2 (tlen (tkid f j)) (tlen (tkid f j))]).cell? ⟨w.heap.size, 0 + j * 5 + q, none⟩ = some v := fun q v hq => by
            have hql : q < 5 := by
              rcases Nat.lt_or_ge q 5 with h | h
              · exact h
              · rw [List.getElem?_eq_none (by simpa using h)] at hq; cases hq
            rw [blk_cell hbk, Nat.zero_add]
            exact setA_in _ _ _ _ _ hq (by omega)
          exact ⟨hc 0 _ rfl, hc 1 _ rfl, hc 2 _ rfl, ⟨p2, _, hc 3 _ rfl, PS_ks (PS_mono YP.out fun b _ hb => by have : wr.heap.size ≤ b := hb; show w.heap.size < b; omega) hQ, Nat.le_refl _, SZP.out⟩, a2, _, hc 4 _ rfl, MS_ks (MS_mono YM.out fun b _ hb => by have : wr.heap.size ≤ b := hb; show w.heap.size < b; omega) hQ⟩
      case measure => simp [intOf]; omega
    · have HE : Hid (∀ i, i < tlen f → MT wr (fun b => w.heap.size < b) f i w.heap.size (0 + i * 5)) := fun i hi => KI.out i (by omega)
      clear KI
      go_wp2_with fail
      go_ret
      exact ⟨_, rfl, MS_mk (Nat.le_refl _) fun i hi => MT_mono (fun b _ hb => Nat.le_of_lt hb) (HE.out i hi), X.out⟩

def toTerm_byP (k n : Int) (s : ByteArray) (p : List Int) (f : TM) (w : World) (e : Ending) (w' : World) : Prop := ∃ p2 a2, e = .returned (.agg #[.int .i64 k, .int .i64 n, .string s, .slice p2 p.length p.length, .slice a2 (tlen f) (tlen f)]) ∧ PA w' w.heap.size p p2 ∧ MA w' w.heap.size f a2 ∧ Ex w w'
set_option maxRecDepth 100000 in
set_option maxHeartbeats 4000000 in
theorem toTerm_by (k n : Int) (s : ByteArray) (p : List Int) (pa : Option Addr) (pc : Nat) (f : TM) (a : Option Addr) (c : Nat) (w : World) (hp : p.length ≤ 1000000000) (hP : PA w 0 p pa) (hK : ∀ w', Ex w w' → Calls Tryd.prog 33 #[.slice a (tlen f) c] w' fun e w'' => ∃ a', e = .returned (.slice a' (tlen f) (tlen f)) ∧ MA w'' w'.heap.size f a' ∧ Ex w' w'') :
    Calls Tryd.prog 43 #[.agg #[.int .i64 k, .int .i64 n, .string s, .slice pa p.length pc, .slice a (tlen f) c]] w (toTerm_byP k n s p f w) := by
  have H_hP : Hid _ := hP
  clear hP
  have H_hK : Hid _ := hK
  clear hK
  go_enter Tryd.func43, Tryd.ntmps43
  go_wp2_with fail
  have hx0 : Ex w (((w.alloc (.cells #[.int .i64 k, .int .i64 n, .string s, .slice pa p.length pc, .slice a (tlen f) c] 84)).alloc (.cells #[.int .i64 0, .int .i64 0, .string ⟨#[]⟩, .slice none 0 0, .slice none 0 0] 87)).alloc (.cells #[.int .i64 k, .int .i64 n, .string s, .slice none 0 0, .slice none 0 0] 87)) := ((Ex.new _ _).alloc _).alloc _
  have z0 : (((w.alloc (.cells #[.int .i64 k, .int .i64 n, .string s, .slice pa p.length pc, .slice a (tlen f) c] 84)).alloc (.cells #[.int .i64 0, .int .i64 0, .string ⟨#[]⟩, .slice none 0 0, .slice none 0 0] 87)).alloc (.cells #[.int .i64 k, .int .i64 n, .string s, .slice none 0 0, .slice none 0 0] 87)).heap.size = w.heap.size + 3 := by simp only [World.size_alloc]
  have hA0 : (((w.alloc (.cells #[.int .i64 k, .int .i64 n, .string s, .slice pa p.length pc, .slice a (tlen f) c] 84)).alloc (.cells #[.int .i64 0, .int .i64 0, .string ⟨#[]⟩, .slice none 0 0, .slice none 0 0] 87)).alloc (.cells #[.int .i64 k, .int .i64 n, .string s, .slice none 0 0, .slice none 0 0] 87)).heap[w.heap.size]? = some (.cells #[.int .i64 k, .int .i64 n, .string s, .slice pa p.length pc, .slice a (tlen f) c] 84 (0, 0)) := (((Ex.new _ _).alloc _).blk (heap_alloc_new _ _))
  have hR0 : (((w.alloc (.cells #[.int .i64 k, .int .i64 n, .string s, .slice pa p.length pc, .slice a (tlen f) c] 84)).alloc (.cells #[.int .i64 0, .int .i64 0, .string ⟨#[]⟩, .slice none 0 0, .slice none 0 0] 87)).alloc (.cells #[.int .i64 k, .int .i64 n, .string s, .slice none 0 0, .slice none 0 0] 87)).heap[w.heap.size + 1]? = some (.cells #[.int .i64 0, .int .i64 0, .string ⟨#[]⟩, .slice none 0 0, .slice none 0 0] 87 (0, 0)) := ((Ex.new _ _).blk (heap_alloc_at _ _ (by simp only [World.size_alloc])))
  have hO0 : (((w.alloc (.cells #[.int .i64 k, .int .i64 n, .string s, .slice pa p.length pc, .slice a (tlen f) c] 84)).alloc (.cells #[.int .i64 0, .int .i64 0, .string ⟨#[]⟩, .slice none 0 0, .slice none 0 0] 87)).alloc (.cells #[.int .i64 k, .int .i64 n, .string s, .slice none 0 0, .slice none 0 0] 87)).heap[w.heap.size + 1 + 1]? = some (.cells #[.int .i64 k, .int .i64 n, .string s, .slice none 0 0, .slice none 0 0] 87 (0, 0)) := heap_alloc_at _ _ (by simp only [World.size_alloc])
  obtain ⟨W0, hW0⟩ : ∃ W0, W0 = (((w.alloc (.cells #[.int .i64 k, .int .i64 n, .string s, .slice pa p.length pc, .slice a (tlen f) c] 84)).alloc (.cells #[.int .i64 0, .int .i64 0, .string ⟨#[]⟩, .slice none 0 0, .slice none 0 0] 87)).alloc (.cells #[.int .i64 k, .int .i64 n, .string s, .slice none 0 0, .slice none 0 0] 87)) := ⟨_, rfl⟩
  rw [← hW0] at hx0 z0 hA0 hR0 hO0 ⊢
  clear hW0
  have X0 : Hid (Ex w W0) := hx0
  have BA0 : Hid _ := hA0
  have BR0 : Hid _ := hR0
  have BO0 : Hid _ := hO0
  have Z0 : Hid (W0.heap.size = w.heap.size + 3) := z0
  clear hx0 hA0 hR0 hO0 z0
  refine (toInts_any p pa pc W0 hp (PA_below H_hP.out X0.out)).mono ?_
  rintro e w1 ⟨p2, rfl, y_p, hb1⟩
  have hxa1 : Ex w w1 := X0.out.trans hb1
  have hA1 := hb1.blk BA0.out
  have hR1 := hb1.blk BR0.out
  have hO1 := hb1.blk BO0.out
  have hsz1 := hb1.size
  have ca4 : w1.cell? ⟨w.heap.size, 4, none⟩ = some (.slice a (tlen f) c) := blk_cell hA1 4
  have co3 : w1.cell? ⟨w.heap.size + 1 + 1, 3, none⟩ = some (.slice none 0 0) := blk_cell hO1 3
  have fo3 := blk_free hO1 3
  have qO1 : (w1.setCell ⟨w.heap.size + 1 + 1, 3, none⟩ (.slice p2 p.length p.length)).heap[w.heap.size + 1 + 1]? = some (.cells #[.int .i64 k, .int .i64 n, .string s, .slice p2 p.length p.length, .slice none 0 0] 87 (0, 0)) := (blk_set hO1 (.slice p2 p.length p.length))
  have qR1 : (w1.setCell ⟨w.heap.size + 1 + 1, 3, none⟩ (.slice p2 p.length p.length)).heap[w.heap.size + 1]? = some (.cells #[.int .i64 0, .int .i64 0, .string ⟨#[]⟩, .slice none 0 0, .slice none 0 0] 87 (0, 0)) := (blk_off hR1 (by omega) (.slice p2 p.length p.length))
  have qA1 : (w1.setCell ⟨w.heap.size + 1 + 1, 3, none⟩ (.slice p2 p.length p.length)).heap[w.heap.size]? = some (.cells #[.int .i64 k, .int .i64 n, .string s, .slice pa p.length pc, .slice a (tlen f) c] 84 (0, 0)) := (blk_off hA1 (by omega) (.slice p2 p.length p.length))
  have qx1 : Ex w (w1.setCell ⟨w.heap.size + 1 + 1, 3, none⟩ (.slice p2 p.length p.length)) := (hxa1.set (by show w.heap.size ≤ w.heap.size + 1 + 1; omega) (.slice p2 p.length p.length))
  have qk1 : Kp (w.heap.size + 3) w1 (w1.setCell ⟨w.heap.size + 1 + 1, 3, none⟩ (.slice p2 p.length p.length)) := ((Kp.refl (w.heap.size + 3) _).set (Or.inl (by show w.heap.size + 1 + 1 < w.heap.size + 3; omega)) (.slice p2 p.length p.length))
  have yb_p1 := PA_kp (PA_lo y_p (by have := Z0.out; omega)) qk1
  have qz1 : w.heap.size + 3 ≤ (w1.setCell ⟨w.heap.size + 1 + 1, 3, none⟩ (.slice p2 p.length p.length)).heap.size := by (try simp only [World.size_setCell]); have := Z0.out; omega
  obtain ⟨W1, hW1⟩ : ∃ W, W = (w1.setCell ⟨w.heap.size + 1 + 1, 3, none⟩ (.slice p2 p.length p.length)) := ⟨_, rfl⟩
  rw [← hW1] at qO1 qR1 qA1 qx1 qz1 yb_p1
  have X1 : Hid (Ex w W1) := qx1
  have BA1 : Hid _ := qA1
  have BR1 : Hid _ := qR1
  have BO1 : Hid _ := qO1
  have Z1 : Hid (w.heap.size + 3 ≤ W1.heap.size) := qz1
  have HW1 : Hid (W1 = (w1.setCell ⟨w.heap.size + 1 + 1, 3, none⟩ (.slice p2 p.length p.length))) := hW1
  skip
  have M_p : Hid _ := yb_p1
  clear hW1 qO1 qR1 qA1 qx1 qz1 qk1 hxa1 hA1 hR1 hO1 hsz1 hb1 BA0 BR0 BO0 X0 Z0 yb_p1  y_p
  go_wp2_with fail
  rw [← HW1.out]
  clear HW1 ca4 co3 fo3
  refine (H_hK.out _ X1.out).mono ?_
  rintro e w2 ⟨a2, rfl, y_f, hb2⟩
  have hxa2 : Ex w w2 := X1.out.trans hb2
  have hA2 := hb2.blk BA1.out
  have hR2 := hb2.blk BR1.out
  have hO2 := hb2.blk BO1.out
  have hsz2 := hb2.size
  have ya_p2 := PA_below M_p.out hb2
  have co0 : w2.cell? ⟨w.heap.size + 1 + 1, 0, none⟩ = some (.int .i64 k) := blk_cell hO2 0
  have co1 : w2.cell? ⟨w.heap.size + 1 + 1, 1, none⟩ = some (.int .i64 n) := blk_cell hO2 1
  have co2 : w2.cell? ⟨w.heap.size + 1 + 1, 2, none⟩ = some (.string s) := blk_cell hO2 2
  have co3 : w2.cell? ⟨w.heap.size + 1 + 1, 3, none⟩ = some (.slice p2 p.length p.length) := blk_cell hO2 3
  have co4 : w2.cell? ⟨w.heap.size + 1 + 1, 4, none⟩ = some (.slice none 0 0) := blk_cell hO2 4
  have fo4 := blk_free hO2 4
  have cr0 : w2.cell? ⟨w.heap.size + 1, 0, none⟩ = some (.int .i64 0) := blk_cell hR2 0
  have cr1 : w2.cell? ⟨w.heap.size + 1, 1, none⟩ = some (.int .i64 0) := blk_cell hR2 1
  have cr2 : w2.cell? ⟨w.heap.size + 1, 2, none⟩ = some (.string ⟨#[]⟩) := blk_cell hR2 2
  have cr3 : w2.cell? ⟨w.heap.size + 1, 3, none⟩ = some (.slice none 0 0) := blk_cell hR2 3
  have cr4 : w2.cell? ⟨w.heap.size + 1, 4, none⟩ = some (.slice none 0 0) := blk_cell hR2 4
  have fr0 := blk_free hR2 0
  have fr1 := blk_free hR2 1
  have fr2 := blk_free hR2 2
  have fr3 := blk_free hR2 3
  have fr4 := blk_free hR2 4
  have qO2 : (w2.setCell ⟨w.heap.size + 1 + 1, 4, none⟩ (.slice a2 (tlen f) (tlen f))).heap[w.heap.size + 1 + 1]? = some (.cells #[.int .i64 k, .int .i64 n, .string s, .slice p2 p.length p.length, .slice a2 (tlen f) (tlen f)] 87 (0, 0)) := (blk_set hO2 (.slice a2 (tlen f) (tlen f)))
  have qR2 : (w2.setCell ⟨w.heap.size + 1 + 1, 4, none⟩ (.slice a2 (tlen f) (tlen f))).heap[w.heap.size + 1]? = some (.cells #[.int .i64 0, .int .i64 0, .string ⟨#[]⟩, .slice none 0 0, .slice none 0 0] 87 (0, 0)) := (blk_off hR2 (by omega) (.slice a2 (tlen f) (tlen f)))
  have qA2 : (w2.setCell ⟨w.heap.size + 1 + 1, 4, none⟩ (.slice a2 (tlen f) (tlen f))).heap[w.heap.size]? = some (.cells #[.int .i64 k, .int .i64 n, .string s, .slice pa p.length pc, .slice a (tlen f) c] 84 (0, 0)) := (blk_off hA2 (by omega) (.slice a2 (tlen f) (tlen f)))
  have qx2 : Ex w (w2.setCell ⟨w.heap.size + 1 + 1, 4, none⟩ (.slice a2 (tlen f) (tlen f))) := (hxa2.set (by show w.heap.size ≤ w.heap.size + 1 + 1; omega) (.slice a2 (tlen f) (tlen f)))
  have qk2 : Kp (w.heap.size + 3) w2 (w2.setCell ⟨w.heap.size + 1 + 1, 4, none⟩ (.slice a2 (tlen f) (tlen f))) := ((Kp.refl (w.heap.size + 3) _).set (Or.inl (by show w.heap.size + 1 + 1 < w.heap.size + 3; omega)) (.slice a2 (tlen f) (tlen f)))
  have yb_p2 := PA_kp ya_p2 qk2
  have yb_f2 := MA_kp (MA_lo y_f (by have := Z1.out; omega)) qk2
  have qz2 : w.heap.size + 3 ≤ (w2.setCell ⟨w.heap.size + 1 + 1, 4, none⟩ (.slice a2 (tlen f) (tlen f))).heap.size := by (try simp only [World.size_setCell]); have := Z1.out; omega
  have qQ : (setL (w2.setCell ⟨w.heap.size + 1 + 1, 4, none⟩ (.slice a2 (tlen f) (tlen f))) (w.heap.size + 1) 0 [.int .i64 k, .int .i64 n, .string s, .slice p2 p.length p.length, .slice a2 (tlen f) (tlen f)]).heap[w.heap.size + 1]? = some (.cells #[.int .i64 k, .int .i64 n, .string s, .slice p2 p.length p.length, .slice a2 (tlen f) (tlen f)] 87 (0, 0)) := (setL_blk [.int .i64 k, .int .i64 n, .string s, .slice p2 p.length p.length, .slice a2 (tlen f) (tlen f)] qR2).trans (by rw [setA_all [.int .i64 k, .int .i64 n, .string s, .slice p2 p.length p.length, .slice a2 (tlen f) (tlen f)] #[.int .i64 0, .int .i64 0, .string ⟨#[]⟩, .slice none 0 0, .slice none 0 0] rfl])
  have rr0 : (setL (w2.setCell ⟨w.heap.size + 1 + 1, 4, none⟩ (.slice a2 (tlen f) (tlen f))) (w.heap.size + 1) 0 [.int .i64 k, .int .i64 n, .string s, .slice p2 p.length p.length, .slice a2 (tlen f) (tlen f)]).cell? ⟨w.heap.size + 1, 0, none⟩ = some (.int .i64 k) := blk_cell qQ 0
  have rr1 : (setL (w2.setCell ⟨w.heap.size + 1 + 1, 4, none⟩ (.slice a2 (tlen f) (tlen f))) (w.heap.size + 1) 0 [.int .i64 k, .int .i64 n, .string s, .slice p2 p.length p.length, .slice a2 (tlen f) (tlen f)]).cell? ⟨w.heap.size + 1, 1, none⟩ = some (.int .i64 n) := blk_cell qQ 1
  have rr2 : (setL (w2.setCell ⟨w.heap.size + 1 + 1, 4, none⟩ (.slice a2 (tlen f) (tlen f))) (w.heap.size + 1) 0 [.int .i64 k, .int .i64 n, .string s, .slice p2 p.length p.length, .slice a2 (tlen f) (tlen f)]).cell? ⟨w.heap.size + 1, 2, none⟩ = some (.string s) := blk_cell qQ 2
  have rr3 : (setL (w2.setCell ⟨w.heap.size + 1 + 1, 4, none⟩ (.slice a2 (tlen f) (tlen f))) (w.heap.size + 1) 0 [.int .i64 k, .int .i64 n, .string s, .slice p2 p.length p.length, .slice a2 (tlen f) (tlen f)]).cell? ⟨w.heap.size + 1, 3, none⟩ = some (.slice p2 p.length p.length) := blk_cell qQ 3
  have rr4 : (setL (w2.setCell ⟨w.heap.size + 1 + 1, 4, none⟩ (.slice a2 (tlen f) (tlen f))) (w.heap.size + 1) 0 [.int .i64 k, .int .i64 n, .string s, .slice p2 p.length p.length, .slice a2 (tlen f) (tlen f)]).cell? ⟨w.heap.size + 1, 4, none⟩ = some (.slice a2 (tlen f) (tlen f)) := blk_cell qQ 4
  have qxx : Ex w (setL (w2.setCell ⟨w.heap.size + 1 + 1, 4, none⟩ (.slice a2 (tlen f) (tlen f))) (w.heap.size + 1) 0 [.int .i64 k, .int .i64 n, .string s, .slice p2 p.length p.length, .slice a2 (tlen f) (tlen f)]) := setL_ex [.int .i64 k, .int .i64 n, .string s, .slice p2 p.length p.length, .slice a2 (tlen f) (tlen f)] qx2 (by omega)
  have qkk : Kp (w.heap.size + 3) (w2.setCell ⟨w.heap.size + 1 + 1, 4, none⟩ (.slice a2 (tlen f) (tlen f))) (setL (w2.setCell ⟨w.heap.size + 1 + 1, 4, none⟩ (.slice a2 (tlen f) (tlen f))) (w.heap.size + 1) 0 [.int .i64 k, .int .i64 n, .string s, .slice p2 p.length p.length, .slice a2 (tlen f) (tlen f)]) := setL_kp [.int .i64 k, .int .i64 n, .string s, .slice p2 p.length p.length, .slice a2 (tlen f) (tlen f)] (Kp.refl _ _) (Or.inl (by omega))
  have yc_p := PA_kp yb_p2 qkk
  have yc_f := MA_kp yb_f2 qkk
  have RR0 : Hid _ := rr0
  have RR1 : Hid _ := rr1
  have RR2 : Hid _ := rr2
  have RR3 : Hid _ := rr3
  have RR4 : Hid _ := rr4
  have QX : Hid _ := qxx
  have YC_p : Hid _ := yc_p
  have YC_f : Hid _ := yc_f
  clear qQ qxx qkk qO2 qR2 qA2 qx2 qz2 qk2 hxa2 hA2 hR2 hO2 hsz2 hb2 BA1 BR1 BO1 X1 Z1 rr0 rr1 rr2 rr3 rr4 yb_p2 yc_p yb_f2 yc_f ya_p2 M_p y_f
  go_wp2_with fail
  have r0 := RR0.out
  have r1 := RR1.out
  have r2 := RR2.out
  have r3 := RR3.out
  have r4 := RR4.out
  simp only [setL, Nat.zero_add, Nat.reduceAdd] at r0 r1 r2 r3 r4
  refine bodyPost_ret (v := .agg #[.int .i64 k, .int .i64 n, .string s, .slice p2 p.length p.length, .slice a2 (tlen f) (tlen f)]) (by simp [results, Tryd.results43, go_sem, r0, r1, r2, r3, r4]) rfl ?_
  exact ⟨p2, a2, rfl, PA_lo YC_p.out (by omega), MA_lo YC_f.out (by omega), QX.out⟩

theorem toTermS_all : ∀ (d : Nat) (f : TM) (a : Option Addr) (c : Nat) (w : World), tdep f < d → tlen f ≤ 1000000000 → TSm f → MA w 0 f a →
    Calls Tryd.prog 33 #[.slice a (tlen f) c] w fun e w' => ∃ a', e = .returned (.slice a' (tlen f) (tlen f)) ∧ MA w' w.heap.size f a' ∧ Ex w w' := by
  intro d
  induction d with
  | zero => intro f a c w hd; omega
  | succ d ih =>
    intro f a c w hd hl hm hT
    refine toTermS_by f a c w hl hm hT fun j hj pa pc a' c' w' hx hp hk => ?_
    obtain ⟨g1, g2, g3⟩ := TSm_kid hm j hj
    have hdj := tdep_kid f j hj
    exact toTerm_by _ _ _ _ pa pc _ a' c' w' g1 hp (fun w2 hx2 => ih _ a' c' w2 (by omega) g2 g3 (MA_below hk hx2))

theorem toTermS_any (f : TM) (a : Option Addr) (c : Nat) (w : World) (hl : tlen f ≤ 1000000000) (hm : TSm f) (hT : MA w 0 f a) :
    Calls Tryd.prog 33 #[.slice a (tlen f) c] w fun e w' => ∃ a', e = .returned (.slice a' (tlen f) (tlen f)) ∧ MA w' w.heap.size f a' ∧ Ex w w' := toTermS_all (tdep f + 1) f a c w (by omega) hl hm hT

end Go.Proofs.YtgpdnoghlommeaaDoor
