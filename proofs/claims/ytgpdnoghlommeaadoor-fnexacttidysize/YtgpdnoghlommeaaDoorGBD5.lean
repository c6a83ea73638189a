/- Walks: a binding that is ok. Walks: a body that is ok. -/
import Derived.Test.YtgpdnoghlommeaaDoorGBD3
import Derived.Deep.RegionHeld3
namespace Go.Proofs.YtgpdnoghlommeaaDoor

open Go.RowKit Go.Deep

attribute [local go_sem ↓] Go.wp_at_zero Go.wp_at_succ

theorem XA_take {w : World} {lo : Nat} {p : List ByteArray} {a : Option Addr} (h : XA w lo p a) (j : Nat) (hj : j ≤ p.length) : XA w lo (p.take j) a ∧ (p.take j).length = j := by
  have hl : (p.take j).length = j := by rw [List.length_take]; omega
  refine ⟨?_, hl⟩
  rcases h with h | ⟨b, o, e, hb, hc⟩
  · exact Or.inl (by omega)
  · refine Or.inr ⟨b, o, e, hb, fun i hi => ?_⟩
    rw [hc i (by omega)]
    simp only [List.getD]
    rw [List.getElem?_take_of_lt (by omega)]

theorem bindB_len {fs : List PM} {rec : List ByteArray → BD → TM → Bool} {ns : List ByteArray} {k : Int} {nm : List ByteArray} {fn : ByteArray} {ts : TM} {tb : BD} {tz : TM} {eb : BD} {ez : TM} (h : 60 < nm.length) : bindB fs rec ns k nm fn ts tb tz eb ez = false := by
  simp [bindB, show ¬ nm.length ≤ 60 by omega]
theorem bindB_terms {fs : List PM} {rec : List ByteArray → BD → TM → Bool} {ns : List ByteArray} {k : Int} {nm : List ByteArray} {fn : ByteArray} {ts : TM} {tb : BD} {tz : TM} {eb : BD} {ez : TM} (h : termsB ns ts = false) : bindB fs rec ns k nm fn ts tb tz eb ez = false := by
  simp [bindB, h]
theorem bindB_uniq {fs : List PM} {rec : List ByteArray → BD → TM → Bool} {ns : List ByteArray} {k : Int} {nm : List ByteArray} {fn : ByteArray} {ts : TM} {tb : BD} {tz : TM} {eb : BD} {ez : TM} (h : uniqB nm = false) : bindB fs rec ns k nm fn ts tb tz eb ez = false := by
  simp [bindB, h]
theorem bindB_kind {fs : List PM} {rec : List ByteArray → BD → TM → Bool} {ns : List ByteArray} {k : Int} {nm : List ByteArray} {fn : ByteArray} {ts : TM} {tb : BD} {tz : TM} {eb : BD} {ez : TM} (h1 : nm.length ≤ 60) (h2 : termsB ns ts = true) (h3 : uniqB nm = true) : bindB fs rec ns k nm fn ts tb tz eb ez = kindB fs rec ns k nm fn ts tb tz eb ez := by
  simp only [bindB, h1, h2, h3, decide_true, Bool.true_and]

theorem kindB_1 {fs : List PM} {rec : List ByteArray → BD → TM → Bool} {ns : List ByteArray} {nm : List ByteArray} {fn : ByteArray} {ts : TM} {tb : BD} {tz : TM} {eb : BD} {ez : TM} : kindB fs rec ns 1 nm fn ts tb tz eb ez = (decide (blen tb + tlen tz + blen eb + tlen ez = 0) && (decide (fn.size = 0) && (decide (nm.length = 1) && decide (tlen ts = 1)))) := rfl
theorem kindB_2 {fs : List PM} {rec : List ByteArray → BD → TM → Bool} {ns : List ByteArray} {nm : List ByteArray} {fn : ByteArray} {ts : TM} {tb : BD} {tz : TM} {eb : BD} {ez : TM} : kindB fs rec ns 2 nm fn ts tb tz eb ez = (decide (blen tb + tlen tz + blen eb + tlen ez = 0) && ((arityR fs fn).2.2 && (decide ((arityR fs fn).1 = tlen ts) && decide ((arityR fs fn).2.1 = nm.length)))) := rfl
theorem kindB_3 {fs : List PM} {rec : List ByteArray → BD → TM → Bool} {ns : List ByteArray} {nm : List ByteArray} {fn : ByteArray} {ts : TM} {tb : BD} {tz : TM} {eb : BD} {ez : TM} : kindB fs rec ns 3 nm fn ts tb tz eb ez = (decide (fn.size = 0) && (decide (tlen ts = 1) && (rec ns tb tz && (rec ns eb ez && (decide (tlen tz = nm.length) && decide (tlen ez = nm.length)))))) := rfl
theorem kindB_o {fs : List PM} {rec : List ByteArray → BD → TM → Bool} {ns : List ByteArray} {nm : List ByteArray} {fn : ByteArray} {ts : TM} {tb : BD} {tz : TM} {eb : BD} {ez : TM} {k : Int} (h1 : ¬ k = 1) (h2 : ¬ k = 2) (h3 : ¬ k = 3) : kindB fs rec ns k nm fn ts tb tz eb ez = false := by
  unfold kindB; rw [if_neg h1, if_neg h2, if_neg h3]

set_option maxRecDepth 100000 in
set_option maxHeartbeats 4000000 in
theorem l12Bind_any (l : List PM) (la : Option Addr) (lc at_ : Nat) (hat : at_ ≤ l.length) (hl : l.length ≤ 1000000000) (ns : List ByteArray) (na : Option Addr) (nc : Nat) (hns : ns.length ≤ 1000000000) (rec : List ByteArray → BD → TM → Bool)
    (k : Int) (nm : List ByteArray) (nma : Option Addr) (nmc : Nat) (fn : ByteArray) (ts : TM) (tsa : Option Addr) (tsc : Nat) (tb : BD) (tba : Option Addr) (tbc : Nat) (tz : TM) (tza : Option Addr) (tzc : Nat) (eb : BD) (eba : Option Addr) (ebc : Nat) (ez : TM) (eza : Option Addr) (ezc : Nat) (d : Nat) (hd : d ≤ 1000) (w : World)
    (z1 : blen tb ≤ 1000000000) (z2 : tlen tz ≤ 1000000000) (z3 : blen eb ≤ 1000000000) (z4 : tlen ez ≤ 1000000000) (hnc : nm.length ≤ nmc)
    (hQ : QA w 0 l la) (hX : XA w 0 ns na) (hN : XA w 0 nm nma) (hT : MA w 0 ts tsa)
    (hB1 : ∀ w', Ex w w' → Calls Tryd.prog 20 #[.slice la l.length lc, .int .i64 at_, .slice na ns.length nc, .agg #[.slice tba (blen tb) tbc, .slice tza (tlen tz) tzc], .int .i64 d] w' fun e w'' => e = .returned (.bool (rec ns tb tz)) ∧ Ex w' w'')
    (hB2 : ∀ w', Ex w w' → Calls Tryd.prog 20 #[.slice la l.length lc, .int .i64 at_, .slice na ns.length nc, .agg #[.slice eba (blen eb) ebc, .slice eza (tlen ez) ezc], .int .i64 d] w' fun e w'' => e = .returned (.bool (rec ns eb ez)) ∧ Ex w' w'') :
    Calls Tryd.prog 30 #[.slice la l.length lc, .int .i64 at_, .slice na ns.length nc, .agg #[.int .i64 k, .slice nma nm.length nmc, .string fn, .slice tsa (tlen ts) tsc, .slice tba (blen tb) tbc, .slice tza (tlen tz) tzc, .slice eba (blen eb) ebc, .slice eza (tlen ez) ezc], .int .i64 (d + 1 : Nat)] w fun e w' => e = .returned (.bool (bindB (l.take at_) rec ns k nm fn ts tb tz eb ez)) ∧ Ex w w' := by
  have Q : Hid (∀ w', Ex w w' → QA w' 0 l la) := fun _ h => QA_below hQ h
  have X : Hid (∀ w', Ex w w' → XA w' 0 ns na) := fun _ h => XA_below hX h
  have NN : Hid (∀ w', Ex w w' → XA w' 0 nm nma) := fun _ h => XA_below hN h
  have T : Hid (∀ w', Ex w w' → MA w' 0 ts tsa) := fun _ h => MA_below hT h
  have B1 : Hid _ := hB1
  have B2 : Hid _ := hB2
  have N : Hid (Ex w (w.alloc (.cells #[.int .i64 k, .slice nma nm.length nmc, .string fn, .slice tsa (tlen ts) tsc, .slice tba (blen tb) tbc, .slice tza (tlen tz) tzc, .slice eba (blen eb) ebc, .slice eza (tlen ez) ezc] 55))) := Ex.new _ _
  have C : Hid (∀ w', Ex (w.alloc (.cells #[.int .i64 k, .slice nma nm.length nmc, .string fn, .slice tsa (tlen ts) tsc, .slice tba (blen tb) tbc, .slice tza (tlen tz) tzc, .slice eba (blen eb) ebc, .slice eza (tlen ez) ezc] 55)) w' → w'.cell? ⟨w.heap.size, 0, none⟩ = some (.int .i64 k) ∧ w'.cell? ⟨w.heap.size, 1, none⟩ = some (.slice nma nm.length nmc) ∧ w'.cell? ⟨w.heap.size, 2, none⟩ = some (.string fn) ∧ w'.cell? ⟨w.heap.size, 3, none⟩ = some (.slice tsa (tlen ts) tsc) ∧ w'.cell? ⟨w.heap.size, 4, none⟩ = some (.slice tba (blen tb) tbc) ∧ w'.cell? ⟨w.heap.size, 5, none⟩ = some (.slice tza (tlen tz) tzc) ∧ w'.cell? ⟨w.heap.size, 6, none⟩ = some (.slice eba (blen eb) ebc) ∧ w'.cell? ⟨w.heap.size, 7, none⟩ = some (.slice eza (tlen ez) ezc)) := fun w' h => ⟨h.at (by simp), h.at (by simp), h.at (by simp), h.at (by simp), h.at (by simp), h.at (by simp), h.at (by simp), h.at (by simp)⟩
  obtain ⟨R, hR⟩ : ∃ R, R = bindB (l.take at_) rec ns k nm fn ts tb tz eb ez := ⟨_, rfl⟩
  have RR : Hid (R = bindB (l.take at_) rec ns k nm fn ts tb tz eb ez) := hR
  rw [← hR]
  obtain ⟨D, hD⟩ : ∃ D : Int, D = ((d + 1 : Nat) : Int) := ⟨_, rfl⟩
  have HD : Hid (D = ((d + 1 : Nat) : Int)) := hD
  rw [← hD]
  have d3 : D - 1 = (d : Int) := by omega
  have d4 : IntKind.i64.wrap (D - 1) = (d : Int) := by rw [d3]; exact IntWalk.i64_in _ (by omega)
  clear hQ hX hN hT hB1 hB2 hR hD
  by_cases h60 : 60 < nm.length
  · have HR : Hid (R = false) := RR.out.trans (bindB_len h60)
    have e1 : decide ((60 : Int) < (nm.length : Int)) = true := decide_eq_true (by omega)
    go_enter Tryd.func30, Tryd.ntmps30
    go_wp2_with fail
    go_ret
    exact ⟨ret_b HR.out.symm, N.out⟩
  have e1 : decide ((60 : Int) < (nm.length : Int)) = false := decide_eq_false (by omega)
  go_enter Tryd.func30, Tryd.ntmps30
  go_wp2_with fail
  refine (l12Terms_any ns na nc hns ts tsa tsc _ (X.out _ N.out) (T.out _ N.out)).mono ?_
  rintro e w1 ⟨rfl, hb1⟩
  cases ht : termsB ns ts with
  | false =>
    have HR : Hid (R = false) := RR.out.trans (bindB_terms ht)
    go_wp2_with fail
    go_ret
    exact ⟨ret_b HR.out.symm, N.out.trans hb1⟩
  | true =>
    have HT : Hid (termsB ns ts = true) := ht
    have c1 := (C.out w1 hb1).2.1
    clear ht
    go_wp2_with fail
    go_loopw [11] (fun i wr => ∃ (j : Nat), j ≤ nm.length ∧ i = .int .i64 j ∧ (∀ l, l < j → uniqAt nm l = true) ∧ Ex (w.alloc (.cells #[.int .i64 k, .slice nma nm.length nmc, .string fn, .slice tsa (tlen ts) tsc, .slice tba (blen tb) tbc, .slice tza (tlen tz) tzc, .slice eba (blen eb) ebc, .slice eza (tlen ez) ezc] 55)) wr) (fun i _ => nm.length - (intOf i).toNat)
    case atStart => exact ⟨0, by omega, rfl, fun j hj => by omega, hb1⟩
    case round =>
      obtain ⟨j, hj, rfl, hall, hx⟩ := hrel
      have A : Hid (∀ l, l < j → uniqAt nm l = true) := hall
      have E : Hid (Ex (w.alloc (.cells #[.int .i64 k, .slice nma nm.length nmc, .string fn, .slice tsa (tlen ts) tsc, .slice tba (blen tb) tbc, .slice tza (tlen tz) tzc, .slice eba (blen eb) ebc, .slice eza (tlen ez) ezc] 55)) wr) := hx
      clear hall hb1 c1
      by_cases hlt : j < nm.length
      · have c1 := (C.out wr hx).2.1
        clear hx
        obtain ⟨b, o, rfl, hbs, _, hc⟩ := XA_at (NN.out wr (N.out.trans E.out)) (by omega)
        have ck := hc j hlt
        have K : Hid (∀ w', Ex wr w' → w'.cell? ⟨b, o + j, none⟩ = some (.string (nm.getD j ⟨#[]⟩))) := fun w' h => h.at ck
        have U : Hid (uniqAt nm j = true → ∀ l, l < j + 1 → uniqAt nm l = true) := fun h => upto_succ A.out h
        have V : Hid (uniqAt nm j = false → R = false) := fun h => RR.out.trans (bindB_uniq (uniqB_no hlt h))
        have UA : Hid (uniqAt nm j = (wordB (nm.getD j ⟨#[]⟩) && !hasB (nm.take j) (nm.getD j ⟨#[]⟩))) := rfl
        have XT := fun w' (h : Ex w w') => XA_take (NN.out w' h) j hj
        have LH : Hid (∀ w', Ex wr w' → ∀ c, Calls Tryd.prog 21 #[.slice (some ⟨b, o, none⟩) j c, .string (nm.getD j ⟨#[]⟩)] w' fun e w'' => e = .returned (.bool (hasB (nm.take j) (nm.getD j ⟨#[]⟩))) ∧ Ex w' w'') := fun w' h c => by
          have h3 := XT w' (N.out.trans (E.out.trans h))
          have := l12Has_any (nm.take j) (some ⟨b, o, none⟩) c (nm.getD j ⟨#[]⟩) w' (by omega) h3.1
          rw [h3.2] at this; exact this
        have hjc : j ≤ nmc := by omega
        clear XT hc
        obtain ⟨t, hte⟩ : ∃ t, nm.getD j ⟨#[]⟩ = t := ⟨_, rfl⟩
        obtain ⟨hh, hhe⟩ : ∃ hh, hasB (nm.take j) t = hh := ⟨_, rfl⟩
        rw [hte] at ck K UA LH
        rw [hhe] at UA LH
        clear hte hhe
        have KS : Hid (∀ w', Ex wr w' → (Ex wr w' ∧ w'.cell? ⟨w.heap.size, 1, none⟩ = some (.slice (some ⟨b, o, none⟩) nm.length nmc) ∧ w'.cell? ⟨b, o + j, none⟩ = some (.string t))) := fun w' h => ⟨h, (C.out w' (E.out.trans h)).2.1, K.out w' h⟩
        go_wp2_with fail
        clear c1 ck
        refine wp_region_held_drew (S := fun w' => Ex wr w' ∧ w'.cell? ⟨w.heap.size, 1, none⟩ = some (.slice (some ⟨b, o, none⟩) nm.length nmc) ∧ w'.cell? ⟨b, o + j, none⟩ = some (.string t)) (by kernel_rfl) (KS.out _ (Ex.refl _).drew) (fun hHeld => ?_)
        refine wpAnyH_take (i := 0) (v := ?_) rfl (by kernel_rfl) (by kernel_rfl) (by kernel_rfl) (fun _ _ _ h => h) (Or.inl ⟨by rfl, ?_⟩) (by assumption) ?_
        rotate_left
        · (intro w' hSw; (try dsimp only at hSw); go_simp) <;> with_reducible rfl
        change wpAnyH Tryd.prog _ _ _ _ _ _ (Act.put _ (some 34) _) _
        (try simp only [Act.put, List.setIfInBounds_toArray, List.set_cons_zero, List.set_cons_succ])
        refine wpAnyH_take (i := 1) (v := ?_) rfl (by kernel_rfl) (by kernel_rfl) (by kernel_rfl) (fun _ _ _ h => h) (Or.inl ⟨by rfl, ?_⟩) (by assumption) ?_
        rotate_left
        · (intro w' hSw; (try dsimp only at hSw); go_simp) <;> with_reducible rfl
        change wpAnyH Tryd.prog _ _ _ _ _ _ (Act.put _ (some 35) _) _
        (try simp only [Act.put, List.setIfInBounds_toArray, List.set_cons_zero, List.set_cons_succ])
        refine wpAnyH_take (i := 2) (v := ?_) rfl (by kernel_rfl) (by kernel_rfl) (by kernel_rfl) (fun _ _ _ h => h) (Or.inl ⟨by rfl, ?_⟩) (by assumption) ?_
        rotate_left
        · (intro w' hSw; (try dsimp only at hSw); go_simp) <;> with_reducible rfl
        change wpAnyH Tryd.prog _ _ _ _ _ _ (Act.put _ (some 36) _) _
        (try simp only [Act.put, List.setIfInBounds_toArray, List.set_cons_zero, List.set_cons_succ])
        refine wpAnyH_take (i := 3) (v := ?_) rfl (by kernel_rfl) (by kernel_rfl) (by kernel_rfl) (fun _ _ _ h => h) (Or.inl ⟨by rfl, ?_⟩) (by assumption) ?_
        rotate_left
        · (intro w' hSw; (try dsimp only at hSw); go_simp) <;> with_reducible rfl
        change wpAnyH Tryd.prog _ _ _ _ _ _ (Act.put _ (some 37) _) _
        (try simp only [Act.put, List.setIfInBounds_toArray, List.set_cons_zero, List.set_cons_succ])
        refine wpAnyH_take (i := 4) (v := ?_) rfl (by kernel_rfl) (by kernel_rfl) (by kernel_rfl) (fun _ _ _ h => h) (Or.inl ⟨by rfl, ?_⟩) (by assumption) ?_
        rotate_left
        · (intro w' hSw; (try dsimp only at hSw); go_simp) <;> with_reducible rfl
        change wpAnyH Tryd.prog _ _ _ _ _ _ (Act.put _ (some 38) _) _
        (try simp only [Act.put, List.setIfInBounds_toArray, List.set_cons_zero, List.set_cons_succ])
        refine wpAnyH_ready (rs := [5]) (by kernel_rfl) (by simp) ?_
        refine AllReadyH.cons (i := 5) rfl (fun K hK => ?_) AllReadyH.nil
        go_simp
        refine (l12Word_any t _).mono ?_
        rintro e w2 ⟨rfl, hb2⟩
        have hx2 := Ex.trans (And.left hHeld) hb2
        cases hw : wordB t with
        | false =>
          have HR : Hid (R = false) := V.out (by rw [UA.out, hw]; rfl)
          go_wp2_with fail
          refine hK.out _ _ ?_ (fun hHeld1 => ?_)
          · exact KS.out _ hx2
          clear hK hHeld
          (try simp only [Act.put, List.setIfInBounds_toArray, List.set_cons_zero, List.set_cons_succ])
          refine wpAnyH_take (i := 6) (v := ?_) rfl (by kernel_rfl) (by kernel_rfl) (by kernel_rfl) (fun _ _ _ h => h) (Or.inl ⟨by rfl, ?_⟩) (by assumption) ?_
          rotate_left
          · (intro w' hSw; (try dsimp only at hSw); go_simp) <;> with_reducible rfl
          change wpAnyH Tryd.prog _ _ _ _ _ _ (Act.put _ (some 40) _) _
          (try simp only [Act.put, List.setIfInBounds_toArray, List.set_cons_zero, List.set_cons_succ])
          refine wpAnyH_take (i := 7) (v := ?_) rfl (by kernel_rfl) (by kernel_rfl) (by kernel_rfl) (fun _ _ _ h => h) (Or.inl ⟨by rfl, ?_⟩) (by assumption) ?_
          rotate_left
          · (intro w' hSw; (try dsimp only at hSw); go_simp) <;> with_reducible rfl
          change wpAnyH Tryd.prog _ _ _ _ _ _ (Act.put _ (some 41) _) _
          (try simp only [Act.put, List.setIfInBounds_toArray, List.set_cons_zero, List.set_cons_succ])
          refine wpAnyH_take (i := 8) (v := undef) rfl (by kernel_rfl) (by kernel_rfl) (by kernel_rfl) (fun _ _ _ h => h) (Or.inr ⟨by kernel_rfl, rfl⟩) (by assumption) ?_
          change wpAnyH Tryd.prog _ _ _ _ _ _ (Act.put _ (some 42) _) _
          (try simp only [Act.put, List.setIfInBounds_toArray, List.set_cons_zero, List.set_cons_succ])
          refine wpAnyH_take (i := 9) (v := undef) rfl (by kernel_rfl) (by kernel_rfl) (by kernel_rfl) (fun _ _ _ h => h) (Or.inr ⟨by kernel_rfl, rfl⟩) (by assumption) ?_
          change wpAnyH Tryd.prog _ _ _ _ _ _ (Act.put _ (some 43) _) _
          (try simp only [Act.put, List.setIfInBounds_toArray, List.set_cons_zero, List.set_cons_succ])
          refine wpAnyH_take (i := 10) (v := undef) rfl (by kernel_rfl) (by kernel_rfl) (by kernel_rfl) (fun _ _ _ h => h) (Or.inr ⟨by kernel_rfl, rfl⟩) (by assumption) ?_
          change wpAnyH Tryd.prog _ _ _ _ _ _ (Act.put _ (some 44) _) _
          (try simp only [Act.put, List.setIfInBounds_toArray, List.set_cons_zero, List.set_cons_succ])
          refine wpAnyH_take (i := 11) (v := undef) rfl (by kernel_rfl) (by kernel_rfl) (by kernel_rfl) (fun _ _ _ h => h) (Or.inr ⟨by kernel_rfl, rfl⟩) (by assumption) ?_
          change wpAnyH Tryd.prog _ _ _ _ _ _ (Act.put _ (some 45) _) _
          (try simp only [Act.put, List.setIfInBounds_toArray, List.set_cons_zero, List.set_cons_succ])
          refine wpAnyH_take (i := 12) (v := undef) rfl (by kernel_rfl) (by kernel_rfl) (by kernel_rfl) (fun _ _ _ h => h) (Or.inr ⟨by kernel_rfl, rfl⟩) (by assumption) ?_
          change wpAnyH Tryd.prog _ _ _ _ _ _ (Act.put _ (some 46) _) _
          (try simp only [Act.put, List.setIfInBounds_toArray, List.set_cons_zero, List.set_cons_succ])
          refine wpAnyH_take (i := 13) (v := undef) rfl (by kernel_rfl) (by kernel_rfl) (by kernel_rfl) (fun _ _ _ h => h) (Or.inr ⟨by kernel_rfl, rfl⟩) (by assumption) ?_
          change wpAnyH Tryd.prog _ _ _ _ _ _ (Act.put _ (some 47) _) _
          (try simp only [Act.put, List.setIfInBounds_toArray, List.set_cons_zero, List.set_cons_succ])
          refine wpAnyH_take (i := 14) (v := undef) rfl (by kernel_rfl) (by kernel_rfl) (by kernel_rfl) (fun _ _ _ h => h) (Or.inr ⟨by kernel_rfl, rfl⟩) (by assumption) ?_
          change wpAnyH Tryd.prog _ _ _ _ _ _ (Act.put _ (some 48) _) _
          (try simp only [Act.put, List.setIfInBounds_toArray, List.set_cons_zero, List.set_cons_succ])
          refine wpAnyH_take (i := 15) (v := undef) rfl (by kernel_rfl) (by kernel_rfl) (by kernel_rfl) (fun _ _ _ h => h) (Or.inr ⟨by kernel_rfl, rfl⟩) (by assumption) ?_
          change wpAnyH Tryd.prog _ _ _ _ _ _ (Act.put _ (some 49) _) _
          (try simp only [Act.put, List.setIfInBounds_toArray, List.set_cons_zero, List.set_cons_succ])
          refine wpAnyH_take (i := 16) (v := undef) rfl (by kernel_rfl) (by kernel_rfl) (by kernel_rfl) (fun _ _ _ h => h) (Or.inr ⟨by kernel_rfl, rfl⟩) (by assumption) ?_
          change wpAnyH Tryd.prog _ _ _ _ _ _ (Act.put _ (some 50) _) _
          (try simp only [Act.put, List.setIfInBounds_toArray, List.set_cons_zero, List.set_cons_succ])
          refine wpAnyH_take (i := 17) (v := undef) rfl (by kernel_rfl) (by kernel_rfl) (by kernel_rfl) (fun _ _ _ h => h) (Or.inr ⟨by kernel_rfl, rfl⟩) (by assumption) ?_
          change wpAnyH Tryd.prog _ _ _ _ _ _ (Act.put _ (some 51) _) _
          (try simp only [Act.put, List.setIfInBounds_toArray, List.set_cons_zero, List.set_cons_succ])
          refine wpAnyH_take (i := 18) (v := ?_) rfl (by kernel_rfl) (by kernel_rfl) (by kernel_rfl) (fun _ _ _ h => h) (Or.inl ⟨by rfl, ?_⟩) (by assumption) ?_
          rotate_left
          · (intro w' hSw; (try dsimp only at hSw); go_simp) <;> with_reducible rfl
          change wpAnyH Tryd.prog _ _ _ _ _ _ (Act.put _ (some 52) _) _
          (try simp only [Act.put, List.setIfInBounds_toArray, List.set_cons_zero, List.set_cons_succ])
          refine wpAnyH_done (by kernel_rfl) ?_ _
          go_wp2_with fail
          go_ret
          exact ⟨ret_b HR.out.symm, N.out.trans (E.out.trans hx2)⟩
        | true =>
          have HW : Hid (wordB t = true) := hw
          clear hw
          go_wp2_with fail
          refine hK.out _ _ ?_ (fun hHeld1 => ?_)
          · exact KS.out _ hx2
          clear hK hHeld
          (try simp only [Act.put, List.setIfInBounds_toArray, List.set_cons_zero, List.set_cons_succ])
          refine wpAnyH_take (i := 6) (v := ?_) rfl (by kernel_rfl) (by kernel_rfl) (by kernel_rfl) (fun _ _ _ h => h) (Or.inl ⟨by rfl, ?_⟩) (by assumption) ?_
          rotate_left
          · (intro w' hSw; (try dsimp only at hSw); go_simp) <;> with_reducible rfl
          change wpAnyH Tryd.prog _ _ _ _ _ _ (Act.put _ (some 40) _) _
          (try simp only [Act.put, List.setIfInBounds_toArray, List.set_cons_zero, List.set_cons_succ])
          refine wpAnyH_take (i := 7) (v := ?_) rfl (by kernel_rfl) (by kernel_rfl) (by kernel_rfl) (fun _ _ _ h => h) (Or.inl ⟨by rfl, ?_⟩) (by assumption) ?_
          rotate_left
          · (intro w' hSw; (try dsimp only at hSw); go_simp) <;> with_reducible rfl
          change wpAnyH Tryd.prog _ _ _ _ _ _ (Act.put _ (some 41) _) _
          (try simp only [Act.put, List.setIfInBounds_toArray, List.set_cons_zero, List.set_cons_succ])
          refine wpAnyH_take (i := 8) (v := ?_) rfl (by kernel_rfl) (by kernel_rfl) (by kernel_rfl) (fun _ _ _ h => h) (Or.inl ⟨by rfl, ?_⟩) (by assumption) ?_
          rotate_left
          · (intro w' hSw; (try dsimp only at hSw); go_simp) <;> with_reducible rfl
          change wpAnyH Tryd.prog _ _ _ _ _ _ (Act.put _ (some 42) _) _
          (try simp only [Act.put, List.setIfInBounds_toArray, List.set_cons_zero, List.set_cons_succ])
          refine wpAnyH_take (i := 9) (v := ?_) rfl (by kernel_rfl) (by kernel_rfl) (by kernel_rfl) (fun _ _ _ h => h) (Or.inl ⟨by rfl, ?_⟩) (by assumption) ?_
          rotate_left
          · (intro w' hSw; (try dsimp only at hSw); go_simp) <;> with_reducible rfl
          change wpAnyH Tryd.prog _ _ _ _ _ _ (Act.put _ (some 43) _) _
          (try simp only [Act.put, List.setIfInBounds_toArray, List.set_cons_zero, List.set_cons_succ])
          refine wpAnyH_take (i := 10) (v := ?_) rfl (by kernel_rfl) (by kernel_rfl) (by kernel_rfl) (fun _ _ _ h => h) (Or.inl ⟨by rfl, ?_⟩) (by assumption) ?_
          rotate_left
          · (intro w' hSw; (try dsimp only at hSw); go_simp) <;> with_reducible rfl
          change wpAnyH Tryd.prog _ _ _ _ _ _ (Act.put _ (some 44) _) _
          (try simp only [Act.put, List.setIfInBounds_toArray, List.set_cons_zero, List.set_cons_succ])
          refine wpAnyH_take (i := 11) (v := ?_) rfl (by kernel_rfl) (by kernel_rfl) (by kernel_rfl) (fun _ _ _ h => h) (Or.inl ⟨by rfl, ?_⟩) (by assumption) ?_
          rotate_left
          · (intro w' hSw; (try dsimp only at hSw); go_simp) <;> with_reducible rfl
          change wpAnyH Tryd.prog _ _ _ _ _ _ (Act.put _ (some 45) _) _
          (try simp only [Act.put, List.setIfInBounds_toArray, List.set_cons_zero, List.set_cons_succ])
          refine wpAnyH_take (i := 12) (v := ?_) rfl (by kernel_rfl) (by kernel_rfl) (by kernel_rfl) (fun _ _ _ h => h) (Or.inl ⟨by rfl, ?_⟩) (by assumption) ?_
          rotate_left
          · (intro w' hSw; (try dsimp only at hSw); go_simp) <;> with_reducible rfl
          change wpAnyH Tryd.prog _ _ _ _ _ _ (Act.put _ (some 46) _) _
          (try simp only [Act.put, List.setIfInBounds_toArray, List.set_cons_zero, List.set_cons_succ])
          refine wpAnyH_take (i := 13) (v := ?_) rfl (by kernel_rfl) (by kernel_rfl) (by kernel_rfl) (fun _ _ _ h => h) (Or.inl ⟨by rfl, ?_⟩) (by assumption) ?_
          rotate_left
          · (intro w' hSw; (try dsimp only at hSw); go_simp) <;> with_reducible rfl
          change wpAnyH Tryd.prog _ _ _ _ _ _ (Act.put _ (some 47) _) _
          (try simp only [Act.put, List.setIfInBounds_toArray, List.set_cons_zero, List.set_cons_succ])
          refine wpAnyH_take (i := 14) (v := ?_) rfl (by kernel_rfl) (by kernel_rfl) (by kernel_rfl) (fun _ _ _ h => h) (Or.inl ⟨by rfl, ?_⟩) (by assumption) ?_
          rotate_left
          · (intro w' hSw; (try dsimp only at hSw); go_simp) <;> with_reducible rfl
          change wpAnyH Tryd.prog _ _ _ _ _ _ (Act.put _ (some 48) _) _
          (try simp only [Act.put, List.setIfInBounds_toArray, List.set_cons_zero, List.set_cons_succ])
          refine wpAnyH_take (i := 15) (v := ?_) rfl (by kernel_rfl) (by kernel_rfl) (by kernel_rfl) (fun _ _ _ h => h) (Or.inl ⟨by rfl, ?_⟩) (by assumption) ?_
          rotate_left
          · (intro w' hSw; (try dsimp only at hSw); go_simp) <;> with_reducible rfl
          change wpAnyH Tryd.prog _ _ _ _ _ _ (Act.put _ (some 49) _) _
          (try simp only [Act.put, List.setIfInBounds_toArray, List.set_cons_zero, List.set_cons_succ])
          refine wpAnyH_take (i := 16) (v := ?_) rfl (by kernel_rfl) (by kernel_rfl) (by kernel_rfl) (fun _ _ _ h => h) (Or.inl ⟨by rfl, ?_⟩) (by assumption) ?_
          rotate_left
          · (intro w' hSw; (try dsimp only at hSw); go_simp) <;> with_reducible rfl
          change wpAnyH Tryd.prog _ _ _ _ _ _ (Act.put _ (some 50) _) _
          (try simp only [Act.put, List.setIfInBounds_toArray, List.set_cons_zero, List.set_cons_succ])
          refine wpAnyH_ready (rs := [17]) (by kernel_rfl) (by simp) ?_
          refine AllReadyH.cons (i := 17) rfl (fun K hK => ?_) AllReadyH.nil
          go_simp
          refine (LH.out _ hx2 _).mono ?_
          rintro e w3 ⟨rfl, hb3⟩
          have hx3 := hx2.trans hb3
          cases hh with
          | true =>
            have HR : Hid (R = false) := V.out (by rw [UA.out, HW.out]; rfl)
            go_wp2_with fail
            refine hK.out _ _ ?_ (fun hHeld2 => ?_)
            · exact KS.out _ hx3
            clear hK hHeld1
            (try simp only [Act.put, List.setIfInBounds_toArray, List.set_cons_zero, List.set_cons_succ])
            refine wpAnyH_take (i := 18) (v := ?_) rfl (by kernel_rfl) (by kernel_rfl) (by kernel_rfl) (fun _ _ _ h => h) (Or.inl ⟨by rfl, ?_⟩) (by assumption) ?_
            rotate_left
            · (intro w' hSw; (try dsimp only at hSw); go_simp) <;> with_reducible rfl
            change wpAnyH Tryd.prog _ _ _ _ _ _ (Act.put _ (some 52) _) _
            (try simp only [Act.put, List.setIfInBounds_toArray, List.set_cons_zero, List.set_cons_succ])
            refine wpAnyH_done (by kernel_rfl) ?_ _
            go_wp2_with fail
            go_ret
            exact ⟨ret_b HR.out.symm, N.out.trans (E.out.trans hx3)⟩
          | false =>
            have HU : Hid _ := U.out (by rw [UA.out, HW.out]; rfl)
            go_wp2_with fail
            refine hK.out _ _ ?_ (fun hHeld2 => ?_)
            · exact KS.out _ hx3
            clear hK hHeld1
            (try simp only [Act.put, List.setIfInBounds_toArray, List.set_cons_zero, List.set_cons_succ])
            refine wpAnyH_take (i := 18) (v := ?_) rfl (by kernel_rfl) (by kernel_rfl) (by kernel_rfl) (fun _ _ _ h => h) (Or.inl ⟨by rfl, ?_⟩) (by assumption) ?_
            rotate_left
            · (intro w' hSw; (try dsimp only at hSw); go_simp) <;> with_reducible rfl
            change wpAnyH Tryd.prog _ _ _ _ _ _ (Act.put _ (some 52) _) _
            (try simp only [Act.put, List.setIfInBounds_toArray, List.set_cons_zero, List.set_cons_succ])
            refine wpAnyH_done (by kernel_rfl) ?_ _
            go_wp2_with fail
            go_roundw
            case rel => exact ⟨j + 1, by omega, by go_num, HU.out, E.out.trans hx3⟩
            case measure => simp [intOf]; omega
      · have HR : Hid (R = kindB (l.take at_) rec ns k nm fn ts tb tz eb ez) := RR.out.trans (bindB_kind (by omega) HT.out (uniqB_yes fun i hi => A.out i (by omega)))
        obtain ⟨c0, c1, c2, c3, c4, c5, c6, c7⟩ := C.out wr hx
        clear hx A RR HT NN T
        --TAIL
        by_cases k1 : k = 1
        · subst k1
          by_cases hS : blen tb + tlen tz + blen eb + tlen ez = 0
          · have s0 : ((blen tb : Int) + (tlen tz : Int) + (blen eb : Int) + (tlen ez : Int) == 0) = true := by rw [beq_iff_eq]; omega
            by_cases hF : fn.size = 0
            · have f0 : fn.toList.isEmpty = true := empty_size hF
              by_cases hn : nm.length = 1
              · have hn1 : ((nm.length : Int) == 1) = true := by rw [beq_iff_eq]; omega
                by_cases ht : tlen ts = 1
                · have ht1 : ((tlen ts : Int) == 1) = true := by rw [beq_iff_eq]; omega
                  have HV : Hid (R = true) := HR.out.trans (by rw [kindB_1, decide_eq_true hS, decide_eq_true hF, decide_eq_true hn, decide_eq_true ht]; rfl)
                  go_wp2_with fail
                  go_ret
                  exact ⟨ret_b HV.out.symm, N.out.trans E.out⟩
                · have ht1 : ((tlen ts : Int) == 1) = false := by rw [beq_eq_false_iff_ne]; omega
                  have HV : Hid (R = false) := HR.out.trans (by rw [kindB_1, decide_eq_true hS, decide_eq_true hF, decide_eq_true hn, decide_eq_false ht]; rfl)
                  go_wp2_with fail
                  go_ret
                  exact ⟨ret_b HV.out.symm, N.out.trans E.out⟩
              · have hn1 : ((nm.length : Int) == 1) = false := by rw [beq_eq_false_iff_ne]; omega
                have HV : Hid (R = false) := HR.out.trans (by rw [kindB_1, decide_eq_true hS, decide_eq_true hF, decide_eq_false hn]; rfl)
                go_wp2_with fail
                go_ret
                exact ⟨ret_b HV.out.symm, N.out.trans E.out⟩
            · have f0 : fn.toList.isEmpty = false := full_size hF
              have HV : Hid (R = false) := HR.out.trans (by rw [kindB_1, decide_eq_true hS, decide_eq_false hF]; rfl)
              go_wp2_with fail
              go_ret
              exact ⟨ret_b HV.out.symm, N.out.trans E.out⟩
          · have s0 : ((blen tb : Int) + (tlen tz : Int) + (blen eb : Int) + (tlen ez : Int) == 0) = false := by rw [beq_eq_false_iff_ne]; omega
            have HV : Hid (R = false) := HR.out.trans (by rw [kindB_1, decide_eq_false hS]; rfl)
            go_wp2_with fail
            go_ret
            exact ⟨ret_b HV.out.symm, N.out.trans E.out⟩
        by_cases k2 : k = 2
        · subst k2
          go_wp2_with fail
          refine (l12Arity_any l la lc at_ fn _ hat hl (Q.out _ (N.out.trans E.out))).mono ?_
          rintro e w4 ⟨rfl, hb4⟩
          obtain ⟨⟨g, sd, ok⟩, hg⟩ : ∃ g, arityR (l.take at_) fn = g := ⟨_, rfl⟩
          have G : Hid (arityR (l.take at_) fn = (g, sd, ok)) := hg
          rw [hg]
          obtain ⟨c0, c1, c2, c3, c4, c5, c6, c7⟩ := C.out w4 (E.out.trans hb4)
          clear hg
          by_cases hS : blen tb + tlen tz + blen eb + tlen ez = 0
          · have s0 : ((blen tb : Int) + (tlen tz : Int) + (blen eb : Int) + (tlen ez : Int) == 0) = true := by rw [beq_iff_eq]; omega
            cases ok with
            | false =>
              have HV : Hid (R = false) := HR.out.trans (by rw [kindB_2, decide_eq_true hS, G.out]; rfl)
              go_wp2_with fail
              go_ret
              exact ⟨ret_b HV.out.symm, N.out.trans (E.out.trans hb4)⟩
            | true =>
              by_cases hg : g = tlen ts
              · have hg1 : ((g : Int) == (tlen ts : Int)) = true := by rw [beq_iff_eq]; omega
                by_cases hs : sd = nm.length
                · have hs1 : ((sd : Int) == (nm.length : Int)) = true := by rw [beq_iff_eq]; omega
                  have HV : Hid (R = true) := HR.out.trans (by rw [kindB_2, decide_eq_true hS, G.out, decide_eq_true hg, decide_eq_true hs]; rfl)
                  go_wp2_with fail
                  go_ret
                  exact ⟨ret_b HV.out.symm, N.out.trans (E.out.trans hb4)⟩
                · have hs1 : ((sd : Int) == (nm.length : Int)) = false := by rw [beq_eq_false_iff_ne]; omega
                  have HV : Hid (R = false) := HR.out.trans (by rw [kindB_2, decide_eq_true hS, G.out, decide_eq_true hg, decide_eq_false hs]; rfl)
                  go_wp2_with fail
                  go_ret
                  exact ⟨ret_b HV.out.symm, N.out.trans (E.out.trans hb4)⟩
              · have hg1 : ((g : Int) == (tlen ts : Int)) = false := by rw [beq_eq_false_iff_ne]; omega
                have HV : Hid (R = false) := HR.out.trans (by rw [kindB_2, decide_eq_true hS, G.out, decide_eq_false hg]; rfl)
                go_wp2_with fail
                go_ret
                exact ⟨ret_b HV.out.symm, N.out.trans (E.out.trans hb4)⟩
          · have s0 : ((blen tb : Int) + (tlen tz : Int) + (blen eb : Int) + (tlen ez : Int) == 0) = false := by rw [beq_eq_false_iff_ne]; omega
            have HV : Hid (R = false) := HR.out.trans (by rw [kindB_2, decide_eq_false hS]; rfl)
            go_wp2_with fail
            go_ret
            exact ⟨ret_b HV.out.symm, N.out.trans (E.out.trans hb4)⟩
        by_cases k3 : k = 3
        · subst k3
          by_cases hF : fn.size = 0
          · have f0 : fn.toList.isEmpty = true := empty_size hF
            by_cases ht : tlen ts = 1
            · have ht1 : ((tlen ts : Int) == 1) = true := by rw [beq_iff_eq]; omega
              obtain ⟨r1, hr1⟩ : ∃ r, rec ns tb tz = r := ⟨_, rfl⟩
              obtain ⟨r2, hr2⟩ : ∃ r, rec ns eb ez = r := ⟨_, rfl⟩
              have R1 : Hid (rec ns tb tz = r1) := hr1
              have R2 : Hid (rec ns eb ez = r2) := hr2
              have b1 := B1.out
              have b2 := B2.out
              rw [hr1] at b1
              rw [hr2] at b2
              have BB1 : Hid _ := b1
              have BB2 : Hid _ := b2
              clear hr1 hr2 b1 b2
              go_wp2_with fail
              refine (BB1.out _ (N.out.trans E.out)).mono ?_
              rintro e w4 ⟨rfl, hb4⟩
              obtain ⟨c0, c1, c2, c3, c4, c5, c6, c7⟩ := C.out w4 (E.out.trans hb4)
              cases r1 with
              | false =>
                have HV : Hid (R = false) := HR.out.trans (by rw [kindB_3, decide_eq_true hF, decide_eq_true ht, R1.out]; rfl)
                go_wp2_with fail
                go_ret
                exact ⟨ret_b HV.out.symm, N.out.trans (E.out.trans hb4)⟩
              | true =>
                go_wp2_with fail
                refine (BB2.out _ (N.out.trans (E.out.trans hb4))).mono ?_
                rintro e w5 ⟨rfl, hb5⟩
                obtain ⟨c0, c1, c2, c3, c4, c5, c6, c7⟩ := C.out w5 (E.out.trans (hb4.trans hb5))
                cases r2 with
                | false =>
                  have HV : Hid (R = false) := HR.out.trans (by rw [kindB_3, decide_eq_true hF, decide_eq_true ht, R1.out, R2.out]; rfl)
                  go_wp2_with fail
                  go_ret
                  exact ⟨ret_b HV.out.symm, N.out.trans (E.out.trans (hb4.trans hb5))⟩
                | true =>
                  by_cases hz : tlen tz = nm.length
                  · have hz1 : ((tlen tz : Int) == (nm.length : Int)) = true := by rw [beq_iff_eq]; omega
                    by_cases he : tlen ez = nm.length
                    · have he1 : ((tlen ez : Int) == (nm.length : Int)) = true := by rw [beq_iff_eq]; omega
                      have HV : Hid (R = true) := HR.out.trans (by rw [kindB_3, decide_eq_true hF, decide_eq_true ht, R1.out, R2.out, decide_eq_true hz, decide_eq_true he]; rfl)
                      go_wp2_with fail
                      go_ret
                      exact ⟨ret_b HV.out.symm, N.out.trans (E.out.trans (hb4.trans hb5))⟩
                    · have he1 : ((tlen ez : Int) == (nm.length : Int)) = false := by rw [beq_eq_false_iff_ne]; omega
                      have HV : Hid (R = false) := HR.out.trans (by rw [kindB_3, decide_eq_true hF, decide_eq_true ht, R1.out, R2.out, decide_eq_true hz, decide_eq_false he]; rfl)
                      go_wp2_with fail
                      go_ret
                      exact ⟨ret_b HV.out.symm, N.out.trans (E.out.trans (hb4.trans hb5))⟩
                  · have hz1 : ((tlen tz : Int) == (nm.length : Int)) = false := by rw [beq_eq_false_iff_ne]; omega
                    have HV : Hid (R = false) := HR.out.trans (by rw [kindB_3, decide_eq_true hF, decide_eq_true ht, R1.out, R2.out, decide_eq_false hz]; rfl)
                    go_wp2_with fail
                    go_ret
                    exact ⟨ret_b HV.out.symm, N.out.trans (E.out.trans (hb4.trans hb5))⟩
            · have ht1 : ((tlen ts : Int) == 1) = false := by rw [beq_eq_false_iff_ne]; omega
              have HV : Hid (R = false) := HR.out.trans (by rw [kindB_3, decide_eq_true hF, decide_eq_false ht]; rfl)
              go_wp2_with fail
              go_ret
              exact ⟨ret_b HV.out.symm, N.out.trans E.out⟩
          · have f0 : fn.toList.isEmpty = false := full_size hF
            have HV : Hid (R = false) := HR.out.trans (by rw [kindB_3, decide_eq_false hF]; rfl)
            go_wp2_with fail
            go_ret
            exact ⟨ret_b HV.out.symm, N.out.trans E.out⟩
        have q1 : (k == 1) = false := by rw [beq_eq_false_iff_ne]; exact k1
        have q2 : (k == 2) = false := by rw [beq_eq_false_iff_ne]; exact k2
        have q3 : (k == 3) = false := by rw [beq_eq_false_iff_ne]; exact k3
        have HV : Hid (R = false) := HR.out.trans (kindB_o k1 k2 k3)
        go_wp2_with fail
        go_ret
        exact ⟨ret_b HV.out.symm, N.out.trans E.out⟩

end Go.Proofs.YtgpdnoghlommeaaDoor

namespace Go.Proofs.YtgpdnoghlommeaaDoor

open Go.RowKit Go.Deep

attribute [local go_sem ↓] Go.wp_at_zero Go.wp_at_succ

theorem own_none_texts {w : World} (t : TypeId) {base : Nat} (hb : base ≤ w.heap.size) : (w.alloc (.cells #[] t)).ownsRow base t 1 (.slice (some ⟨w.heap.size, 0, none⟩) 0 0) 0 [] :=
  ⟨rfl, Or.inr ⟨w.heap.size, 0, #[], rfl, hb, heap_alloc_new _ _, Nat.le_refl _, by unfold maxLen; omega, rfl, rfl⟩⟩

theorem row_ex {w w' : World} {base n size : Nat} {e : TypeId} {v : Value} {xs : List Value} (h : w.ownsRow base e size v n xs) (hx : Ex w w') : w'.ownsRow base e size v n xs := by
  obtain ⟨h0, h | ⟨g, cap, cur, h1, h2, h3, h4⟩⟩ := h
  · exact ⟨h0, Or.inl h⟩
  · exact ⟨h0, Or.inr ⟨g, cap, cur, h1, h2, hx.blk h3, h4⟩⟩
theorem infoText : (Tryd.prog.info? 9).map (fun i => (i.zero, i.size, i.bytes)) = some (some (.string ⟨#[]⟩), 1, 16) := by kernel_rfl

theorem nsAt_len {ns : List ByteArray} {b : BD} : ∀ j, (∀ i, i < j → (bnames b i).length ≤ 60) → (nsAt ns b j).length ≤ ns.length + 60 * j
  | 0, _ => by simp [nsAt]
  | j + 1, h => by
    have h1 := nsAt_len (ns := ns) j fun i hi => h i (by omega)
    have h2 := h j (by omega)
    simp only [nsAt, List.length_append]
    omega

set_option maxRecDepth 100000 in
set_option maxHeartbeats 4000000 in
theorem l12Body_any (l : List PM) (la : Option Addr) (lc at_ : Nat) (hat : at_ ≤ l.length) (hl : l.length ≤ 1000000000) : ∀ (d : Nat) (ns : List ByteArray) (na : Option Addr) (nc : Nat) (b : BD) (ba : Option Addr) (bc : Nat) (z : TM) (za : Option Addr) (zc : Nat) (w : World), d ≤ 6 → ns.length + 25000 * d ≤ 200000 → blen b ≤ 1000000000 → BSm b → tlen z ≤ 1000000000 →
    QA w 0 l la → XA w 0 ns na → BA w 0 b ba → MA w 0 z za →
    Calls Tryd.prog 20 #[.slice la l.length lc, .int .i64 at_, .slice na ns.length nc, .agg #[.slice ba (blen b) bc, .slice za (tlen z) zc], .int .i64 d] w fun e w' => e = .returned (.bool (bodyB (l.take at_) d ns b z)) ∧ Ex w w' := by
  intro d
  induction d with
  | zero =>
    intro ns na nc b ba bc z za zc w _ _ _ _ _ _ _ _ _
    go_enter Tryd.func20, Tryd.ntmps20
    go_wp2_with fail
    go_ret
    exact ⟨ret_b rfl, Ex.new _ _⟩
  | succ d ih =>
    intro ns na nc b ba bc z za zc w hd hns hbl hsm hzl hQ hX hB hM
    have Q : Hid (∀ w', Ex w w' → QA w' 0 l la) := fun _ h => QA_below hQ h
    have X : Hid (∀ w', Ex w w' → XA w' 0 ns na) := fun _ h => XA_below hX h
    have B : Hid (∀ w', Ex w w' → BA w' 0 b ba) := fun _ h => BA_below hB h
    have M : Hid (∀ w', Ex w w' → MA w' 0 z za) := fun _ h => MA_below hM h
    have SM : Hid (BSm b) := hsm
    have I : Hid _ := ih
    have N : Hid (Ex w (w.alloc (.cells #[.slice ba (blen b) bc, .slice za (tlen z) zc] 42))) := Ex.new _ _
    have C : Hid (∀ w', Ex (w.alloc (.cells #[.slice ba (blen b) bc, .slice za (tlen z) zc] 42)) w' → w'.cell? ⟨w.heap.size, 0, none⟩ = some (.slice ba (blen b) bc) ∧ w'.cell? ⟨w.heap.size, 1, none⟩ = some (.slice za (tlen z) zc)) := fun w' h => ⟨h.at (by simp), h.at (by simp)⟩
    obtain ⟨R, hR⟩ : ∃ R, R = bodyB (l.take at_) (d + 1) ns b z := ⟨_, rfl⟩
    have RR : Hid (R = bodyB (l.take at_) (d + 1) ns b z) := hR
    rw [← hR]
    obtain ⟨D, hD⟩ : ∃ D : Int, D = ((d + 1 : Nat) : Int) := ⟨_, rfl⟩
    have HD : Hid (D = ((d + 1 : Nat) : Int)) := hD
    rw [← hD]
    have d0 : decide (D < 1) = false := decide_eq_false (by omega)
    clear hQ hX hB hM hR hD hsm ih
    by_cases h4 : 400 < blen b
    · have HR : Hid (R = false) := RR.out.trans (bodyB_len h4)
      have e1 : decide ((400 : Int) < (blen b : Int)) = true := decide_eq_true (by omega)
      go_enter Tryd.func20, Tryd.ntmps20
      go_wp2_with fail
      go_ret
      exact ⟨ret_b HR.out.symm, N.out⟩
    have e1 : decide ((400 : Int) < (blen b : Int)) = false := decide_eq_false (by omega)
    obtain ⟨i0, hi, hz0, hz1, hz2⟩ := info_parts infoText
    obtain ⟨W, hW⟩ : ∃ W, W = w.alloc (.cells #[.slice ba (blen b) bc, .slice za (tlen z) zc] 42) := ⟨_, rfl⟩
    rw [← hW] at N C
    have HW : Hid (w.alloc (.cells #[.slice ba (blen b) bc, .slice za (tlen z) zc] 42) = W) := hW.symm
    have zW : W.heap.size = w.heap.size + 1 := by rw [hW, World.size_alloc]
    have ZW : Hid (W.heap.size = w.heap.size + 1) := zW
    have X0 : Hid (Ex W (W.alloc (.cells #[] 9))) := Ex.new _ _
    have O0 : Hid ((W.alloc (.cells #[] 9)).ownsRow W.heap.size 9 1 (.slice (some ⟨w.heap.size + 1, 0, none⟩) 0 0) 0 []) := by
      have := own_none_texts (w := W) 9 (Nat.le_refl _)
      rw [zW] at this ⊢
      exact this
    clear zW hW
    go_enter Tryd.func20, Tryd.ntmps20
    go_wp2_with (at_builtin; rw [HW.out]; refine wpList_append_vals rfl _ _ 30 rfl W X0.out 9 i0 (.string ⟨#[]⟩) 16 Tryd.underlying30 hi hz0 hz1 hz2 rfl (by decide) (.slice (some ⟨w.heap.size + 1, 0, none⟩) 0 0) 0 [] rfl O0.out na nc ns.length (ns.map Value.string) rfl (by simp) (LS_texts (X.out _ (N.out.trans X0.out))) one_texts (by omega) ?_)
    intro v1 w1 hown1 hg1 hx1
    have O1 : Hid (w1.ownsRow W.heap.size 9 1 v1 ns.length (ns.map Value.string)) := by
      first | exact hown1 | (have := hown1; rw [Nat.zero_add, List.nil_append] at this; exact this)
    have X1 : Hid (Ex W w1) := hx1
    obtain ⟨c0, c1⟩ := C.out w1 hx1
    clear hown1 hg1 hx1 O0 X0
    go_wp2_with fail
    go_loopw [2, 11] (fun nv i wr => ∃ (j : Nat), j ≤ blen b ∧ i = .int .i64 j ∧ (∀ k, k < j → bindAt (l.take at_) (bodyB (l.take at_) d) ns b k = true) ∧ wr.ownsRow W.heap.size 9 1 nv (nsAt ns b j).length ((nsAt ns b j).map Value.string) ∧ Ex W wr) (fun _ i _ => blen b - (intOf i).toNat)
    case atStart => exact ⟨0, by omega, rfl, fun j hj => by omega, O1.out, X1.out⟩
    case round =>
      obtain ⟨j, hj, rfl, hall, hown, hx⟩ := hrel
      have A : Hid (∀ k, k < j → bindAt (l.take at_) (bodyB (l.take at_) d) ns b k = true) := hall
      have E : Hid (Ex W wr) := hx
      clear c0 c1 O1 X1
      obtain ⟨c0, c1⟩ := C.out wr hx
      have hlen : (nsAt ns b j).length ≤ ns.length + 60 * j := nsAt_len j fun i hi => bind_names (A.out i hi)
      obtain ⟨va, vc, rfl, hxa⟩ := own_texts hown rfl
      have O : Hid _ := hown
      have XN : Hid (∀ w', Ex wr w' → XA w' 0 (nsAt ns b j) va) := fun _ h => XA_below (XA_lo hxa (Nat.zero_le _)) h
      clear hall hx hown hxa
      by_cases hlt : j < blen b
      · obtain ⟨bb, o, rfl, _, hbs, hk⟩ := BA_at (B.out wr (N.out.trans E.out)) (by omega)
        obtain ⟨b0, ⟨a1, k1, b1, hnc, x1⟩, b2, ⟨a3, k3, b3, x3⟩, ⟨a4, k4, b4, x4⟩, ⟨a5, k5, b5, x5⟩, ⟨a6, k6, b6, x6⟩, ⟨a7, k7, b7, x7⟩⟩ := hk j hlt
        obtain ⟨s1, s2, s3, s4, s5, s6, s7, s8⟩ := BSm_at SM.out j hlt
        have HI : Hid (∀ w', Ex wr w' → Calls Tryd.prog 30 #[.slice la l.length lc, .int .i64 at_, .slice va (nsAt ns b j).length vc, .agg #[.int .i64 (bkind b j), .slice a1 (bnames b j).length k1, .string (bfn b j), .slice a3 (tlen (bterms b j)) k3, .slice a4 (blen (bthen b j)) k4, .slice a5 (tlen (btsay b j)) k5, .slice a6 (blen (belse b j)) k6, .slice a7 (tlen (besay b j)) k7], .int .i64 D] w' fun e w'' => e = .returned (.bool (bindAt (l.take at_) (bodyB (l.take at_) d) ns b j)) ∧ Ex w' w'') := fun w' h => by
          have e1 : Ex w w' := N.out.trans (E.out.trans h)
          have := l12Bind_any l la lc at_ hat hl (nsAt ns b j) va vc (by omega) (bodyB (l.take at_) d) (bkind b j) (bnames b j) a1 k1 (bfn b j) (bterms b j) a3 k3 (bthen b j) a4 k4 (btsay b j) a5 k5 (belse b j) a6 k6 (besay b j) a7 k7 d (by omega) w' s3 s5 s6 s8 hnc (Q.out w' e1) (XN.out w' h) (XA_below x1 h) (MA_below x3 h)
            (fun w2 h2 => I.out _ _ _ _ _ _ _ _ _ w2 (by omega) (by omega) s3 s4 s5 (Q.out w2 (e1.trans h2)) (XN.out w2 (h.trans h2)) (BA_below x4 (h.trans h2)) (MA_below x5 (h.trans h2)))
            (fun w2 h2 => I.out _ _ _ _ _ _ _ _ _ w2 (by omega) (by omega) s6 s7 s8 (Q.out w2 (e1.trans h2)) (XN.out w2 (h.trans h2)) (BA_below x6 (h.trans h2)) (MA_below x7 (h.trans h2)))
          rw [← HD.out] at this
          exact this
        have U : Hid (bindAt (l.take at_) (bodyB (l.take at_) d) ns b j = true → ∀ k, k < j + 1 → bindAt (l.take at_) (bodyB (l.take at_) d) ns b k = true) := fun h => upto_succ A.out h
        have V : Hid (bindAt (l.take at_) (bodyB (l.take at_) d) ns b j = false → R = false) := fun h => RR.out.trans (bodyB_no hlt h)
        have L60 : Hid (bindAt (l.take at_) (bodyB (l.take at_) d) ns b j = true → (bnames b j).length ≤ 60) := bind_names
        have XM : Hid (∀ w', Ex wr w' → XA w' 0 (bnames b j) a1) := fun _ h => XA_below x1 h
        have KC : Hid (∀ w', Ex wr w' → w'.cell? ⟨bb, o + j * 8 + 1, none⟩ = some (.slice a1 (bnames b j).length k1)) := fun _ h => h.at b1
        clear hk x1 x3 x4 x5 x6 x7 s1 s2 s3 s4 s5 s6 s7 s8
        go_wp2_with fail
        refine (HI.out _ (Ex.refl _)).mono ?_
        rintro e w2 ⟨rfl, hb2⟩
        obtain ⟨r, hr⟩ : ∃ r, bindAt (l.take at_) (bodyB (l.take at_) d) ns b j = r := ⟨_, rfl⟩
        rw [hr] at U V L60 ⊢
        clear hr HI b0 b1 b2 b3 b4 b5 b6 b7 c0 c1
        cases r with
        | false =>
          have HR : Hid (R = false) := V.out rfl
          go_wp2_with fail
          go_ret
          exact ⟨ret_b HR.out.symm, N.out.trans (E.out.trans hb2)⟩
        | true =>
          have HU : Hid _ := U.out rfl
          have h60 := L60.out rfl
          have b1 := KC.out w2 hb2
          obtain ⟨c0, c1⟩ := C.out w2 (E.out.trans hb2)
          have O2 : Hid (w2.ownsRow W.heap.size 9 1 (.slice va (nsAt ns b j).length vc) (nsAt ns b j).length ((nsAt ns b j).map Value.string)) := row_ex O.out hb2
          have X2 : Hid (Ex W w2) := E.out.trans hb2
          have L2 : Hid (LS w2 ((bnames b j).map Value.string) a1) := LS_texts (XM.out w2 hb2)
          clear U V L60 KC XM
          go_wp2_with (at_builtin; refine wpList_append_vals rfl _ _ 30 rfl W X2.out 9 i0 (.string ⟨#[]⟩) 16 Tryd.underlying30 hi hz0 hz1 hz2 rfl (by decide) (.slice va (nsAt ns b j).length vc) (nsAt ns b j).length ((nsAt ns b j).map Value.string) rfl O2.out a1 k1 (bnames b j).length ((bnames b j).map Value.string) rfl (by simp) L2.out one_texts (by omega) ?_)
          intro v3 w3 hown3 hg3 hx3
          have O3 : Hid (w3.ownsRow W.heap.size 9 1 v3 (nsAt ns b (j + 1)).length ((nsAt ns b (j + 1)).map Value.string)) := by
            show World.ownsRow _ _ _ _ _ _ _
            simp only [nsAt, List.length_append, List.map_append]
            exact hown3
          have X3 : Hid (Ex W w3) := hx3
          clear hown3 hg3 hx3
          go_wp2_with fail
          go_roundw
          case rel => exact ⟨j + 1, by omega, by go_num, HU.out, O3.out, X3.out⟩
          case measure => simp [intOf]; omega
      · have hje : j = blen b := by omega
        have HR : Hid (R = termsB (nsAt ns b (blen b)) z) := RR.out.trans (bodyB_end (by omega) fun i hi => A.out i (by omega))
        have LT : Hid (∀ w', Ex wr w' → Calls Tryd.prog 31 #[.slice va (nsAt ns b j).length vc, .slice za (tlen z) zc] w' fun e w'' => e = .returned (.bool R) ∧ Ex w' w'') := fun w' h => by
          have := l12Terms_any (nsAt ns b j) va vc (by omega) z za zc w' (XN.out w' h) (M.out w' (N.out.trans (E.out.trans h)))
          rw [hje, ← HR.out] at this
          rw [hje]; exact this
        clear hje
        go_wp2_with fail
        refine (LT.out _ (Ex.refl _)).mono ?_
        rintro e w2 ⟨rfl, hb2⟩
        go_wp2_with fail
        go_ret
        exact ⟨rfl, N.out.trans (E.out.trans hb2)⟩

end Go.Proofs.YtgpdnoghlommeaaDoor
