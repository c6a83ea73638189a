/- Walks: KindOf by the specification. -/
import Derived.Test.YtgpdnoghlommeaaGreatDoorGKO5

import Derived.Test.YtgpdnoghlommeaaGreatDoorGTK5

import Derived.Test.YtgpdnoghlommeaaGreatDoorBD6

namespace Go.Proofs.YtgpdnoghlommeaaGreatDoor

open Go.RowKit Go.Deep Go.Maps Go.WideMaps

attribute [local go_sem ↓] Go.wp_at_zero Go.wp_at_succ

theorem getD_take {l : List PM} {q i : Nat} (h : i < q) : (l.take q).getD i pm0 = l.getD i pm0 := by
  rw [List.getD_eq_getElem?_getD, List.getElem?_take_of_lt h, ← List.getD_eq_getElem?_getD]
theorem callK_take {l : List PM} {q : Nat} : ∀ m, m ≤ q → callK (l.take q) m = callK l m
  | 0, _ => by funext s v; rfl
  | m + 1, h => by
    funext s v
    rw [callK, callK, fnK, fnK, getD_take (by omega), callK_take m (by omega)]
theorem pureAt_take {l : List PM} {q i : Nat} (h : i < q) : pureAt (l.take q) i = pureAt l i := by
  unfold pureAt
  rw [getD_take h, List.take_take, Nat.min_eq_left (by omega)]
theorem pureB_take {l : List PM} {q : Nat} (hq : q ≤ l.length) (h : l.length ≤ 10) (hp : ∀ j, j < l.length → pureAt l j = true) : pureB (l.take q) = true := by
  have hl : (l.take q).length = q := by rw [List.length_take]; omega
  simp only [pureB, Bool.and_eq_true, List.all_eq_true, List.mem_range, decide_eq_true_eq]
  refine ⟨by omega, fun j hj => ?_⟩
  rw [pureAt_take (by omega)]
  exact hp j (by omega)

/-- Types that are told in memory of their own; nothing, if there are none. -/
def SkQ (R : Option F) (w : World) (e : Ending) (w' : World) : Prop := ∃ a' c', e = .returned (.tuple #[.slice a' (len (R.getD .nil)) c', .bool R.isSome]) ∧ SA w' (fun b => w.heap.size ≤ b) (R.getD .nil) a' ∧ Ex w w'
theorem SkQ.p {R : Option F} {w : World} {e : Ending} {w' : World} (h : SkQ R w e w') : SkP R w e w' := by
  obtain ⟨a', c', he, hV, hx⟩ := h
  exact ⟨R.getD .nil, a', c', he, fun v h => by rw [h]; rfl, hV, hx⟩

set_option maxRecDepth 100000 in
set_option maxHeartbeats 8000000 in
theorem sKindOf_any : ∀ (n : Nat) (l : List PM), l.length = n → l.length ≤ 1000000000 → (∀ i, i < l.length → PSm (l.getD i pm0)) → (∀ i, i < l.length → FSz (l.getD i pm0)) → ∀ (la : Option Addr) (lc : Nat) (s : ByteArray) (v : F) (a : Option Addr) (c : Nat) (w : World), l.length ≤ lc → lc ≤ 9223372036854775807 → QA w 0 l la → len v ≤ 1000000000 → SA w (fun _ => True) v a →
    Calls Tryz.prog 7 #[.slice la l.length lc, .string s, .slice a (len v) c] w (SkQ (runK l s v) w) := by
  intro n
  induction n using Nat.strongRecOn with
  | _ n ih =>
  intro l hn hl hps hz la lc s v a c w hcap hcap2 hQ hv hV
  have I : Hid _ := ih
  have HN : Hid (l.length = n) := hn
  have Q : Hid (∀ w', Ex w w' → QA w' 0 l la) := fun _ h => QA_below hQ h
  have V : Hid (∀ w', Ex w w' → SA w' (fun b => b < w.heap.size) v a) := fun _ h => SA_ex (SA_mono hV fun b hb _ => hb) h
  have OKC : Hid (∀ w', Ex w w' → Calls Tryz.prog 21 #[.slice la l.length lc] w' fun e w'' => e = .returned (.bool (pureB l)) ∧ Ex w' w'') := fun w' h => sPureOk_any l la lc w' hl hps (QA_below hQ h)
  have ARC : Hid (∀ w', Ex w w' → Calls Tryz.prog 22 #[.slice la l.length lc, .int .i64 l.length, .string s] w' fun e w'' => e = .returned (.tuple #[.int .i64 (arityR l s).1, .int .i64 (arityR l s).2.1, .bool (arityR l s).2.2]) ∧ Ex w' w'') := fun w' h => by
    have h1 := l12Arity_any l la lc l.length s w' (Nat.le_refl _) hl (QA_below hQ h)
    rw [List.take_length] at h1
    exact h1
  have FZ : Hid (∀ i, i < l.length → FSz (l.getD i pm0)) := hz
  have PS0 : Hid (∀ i, i < l.length → PSm (l.getD i pm0)) := hps
  have HL : Hid (l.length ≤ 1000000000 ∧ l.length ≤ lc ∧ lc ≤ 9223372036854775807) := ⟨hl, hcap, hcap2⟩
  have HV : Hid (len v ≤ 1000000000) := hv
  obtain ⟨A, hA⟩ : ∃ A, A = askK l s v := ⟨_, rfl⟩
  obtain ⟨R, hR⟩ : ∃ R, R = runK l s v := ⟨_, rfl⟩
  have AA : Hid (A = (pureB l && ((arityR l s).2.2 && (decide ((arityR l s).1 = len v) && fitAll v)))) := hA
  have RR : Hid (A = false → R = none) := fun h => by rw [hR, runK, if_neg (by rw [← hA, h]; simp)]
  have RY : Hid (A = true → R = callK l l.length s v) := fun h => by rw [hR, runK, if_pos (by rw [← hA, h])]
  have RF : Hid (∀ r, R = some r → fitL r ∧ len r ≤ 60) := fun r h => runK_fit (hR.symm.trans h)
  rw [← hR]
  have NO : Hid (∀ b m w', Ex w w' → A = false → SkQ R w (.returned (.tuple #[.slice (some ⟨b, 0, none⟩) 0 m, .bool false])) w') := fun b m w' h ha => by rw [RR.out ha]; exact ⟨_, m, rfl, Or.inl rfl, h⟩
  clear hA hR hQ hV hps hz ih hn hcap hcap2
  go_enter Tryz.func7, Tryz.ntmps7
  go_wp2_with fail
  refine (OKC.out _ (Ex.new _ _)).mono ?_
  rintro e w1 ⟨rfl, hb1⟩
  have X1 : Hid (Ex w w1) := (Ex.new _ _).trans hb1
  have OW1 : Hid (RT w1 w.heap.size (fun _ => False) (.slice (some ⟨w.heap.size, 0, none⟩) 0 0) .nil) := (RT.empty w w.heap.size _ (Nat.le_refl _)).ex hb1
  clear hb1 OKC
  obtain ⟨bp, hbp⟩ : ∃ b, pureB l = b := ⟨_, rfl⟩
  rw [hbp] at AA ⊢
  cases bp with
  | false =>
    have AF : Hid (A = false) := AA.out
    go_wp2_with fail
    go_loopw [11, 12] (fun ok i wr => ∃ j : Nat, j ≤ len v ∧ i = .int .i64 j ∧ ok = .bool false ∧ Ex w wr) (fun _ i _ => len v - (intOf i).toNat)
    case atStart => exact ⟨0, by omega, rfl, rfl, X1.out⟩
    case round =>
      obtain ⟨j, hj, rfl, rfl, hx⟩ := hrel
      have XR : Hid (Ex w wr) := hx
      clear hx
      by_cases hlt : j < len v
      · go_wp2_with fail
        go_roundw
        case rel => exact ⟨j + 1, by omega, by go_num, rfl, XR.out⟩
        case measure => simp [intOf]; omega
      · go_wp2_with fail
        exact bodyPost_ret (v := .tuple #[.slice (some ⟨w.heap.size, 0, none⟩) 0 0, .bool false]) (by simp [results, Tryz.results7, go_sem]) rfl (NO.out _ _ _ XR.out AF.out)
  | true =>
    have PB : Hid (∀ j, j < l.length → pureAt l j = true) := (pureB_at hbp).2
    have PLN : Hid (l.length ≤ 10) := (pureB_at hbp).1
    clear hbp
    go_wp2_with fail
    refine (ARC.out _ X1.out).mono ?_
    rintro e w2 ⟨rfl, hb2⟩
    have X2 : Hid (Ex w w2) := X1.out.trans hb2
    have OW2 : Hid (RT w2 w.heap.size (fun _ => False) (.slice (some ⟨w.heap.size, 0, none⟩) 0 0) .nil) := RT.ex OW1.out hb2
    obtain ⟨K, hK⟩ : ∃ K, K = (arityR l s).2.2 := ⟨_, rfl⟩
    obtain ⟨G, hG⟩ : ∃ G, G = (arityR l s).1 := ⟨_, rfl⟩
    obtain ⟨G2, hG2⟩ : ∃ G, G = (arityR l s).2.1 := ⟨_, rfl⟩
    rw [← hK, ← hG, ← hG2]
    rw [← hK, ← hG] at AA
    have HK : Hid (K = (arityR l s).2.2) := hK
    have HG : Hid (G = (arityR l s).1) := hG
    clear hb2 ARC hK hG hG2
    go_wp2_with fail
    go_loopw [11, 12] (fun ok i wr => ∃ (j : Nat) (b : Bool), j ≤ len v ∧ i = .int .i64 j ∧ ok = .bool b ∧ (b = true → K = true ∧ ∀ i, i < j → fits 4 (kid v i) = true) ∧ (b = false → K = false ∨ fitAll v = false) ∧ Ex w wr ∧ RT wr w.heap.size (fun _ => False) (.slice (some ⟨w.heap.size, 0, none⟩) 0 0) .nil) (fun _ i _ => len v - (intOf i).toNat)
    case atStart => exact ⟨0, K, by omega, rfl, rfl, fun h => ⟨h, fun i hi => by omega⟩, fun h => Or.inl h, X2.out, OW2.out⟩
    case round =>
      obtain ⟨j, ok, hj, rfl, rfl, hyes, hno, hx, hrv⟩ := hrel
      have XR : Hid (Ex w wr) := hx
      have OWR : Hid (RT wr w.heap.size (fun _ => False) (.slice (some ⟨w.heap.size, 0, none⟩) 0 0) .nil) := hrv
      clear hrv
      have YES : Hid _ := hyes
      have NOT : Hid _ := hno
      clear hx hyes hno
      by_cases hlt : j < len v
      · have JL : Hid (j < len v) := hlt
        cases ok with
        | false =>
          go_wp2_with fail
          go_roundw
          case rel => exact ⟨j + 1, false, by have := JL.out; omega, by go_num, rfl, fun h => (by cases h), NOT.out, XR.out, OWR.out⟩
          case measure => have := JL.out; simp [intOf]; omega
        | true =>
          obtain ⟨b, o, rfl, _, hbs, hk⟩ := SA_at (V.out wr XR.out) (by omega)
          obtain ⟨a0, k0, v1, hV0⟩ := hk j hlt
          have AC : Hid (∀ w', Ex wr w' → Calls Tryz.prog 23 #[.agg #[.slice a0 (len (kid v j)) k0]] w' fun e w'' => e = .returned (.bool (fits 4 (kid v j))) ∧ Ex w' w'') := fun w' h => sTypeOk_any (kid v j) a0 k0 0 w' (SA_mono (SA_ex hV0 h) fun _ _ _ => Nat.zero_le _)
          obtain ⟨z, hz⟩ : ∃ z, z = fits 4 (kid v j) := ⟨_, rfl⟩
          rw [← hz] at AC
          have HZ : Hid (z = fits 4 (kid v j)) := hz
          have i1 : (0 : Int) ≤ (j : Int) := by omega
          have i2 : (j : Int) < (len v : Int) := by omega
          have hvl : len v ≤ 1000000000 := HV.out
          clear hk hV0 hz
          go_wp2_with fail
          refine (AC.out _ (Ex.refl _)).mono ?_
          rintro e w3 ⟨rfl, hb3⟩
          have X3 : Hid (Ex w w3) := XR.out.trans hb3
          have OW3 : Hid (RT w3 w.heap.size (fun _ => False) (.slice (some ⟨w.heap.size, 0, none⟩) 0 0) .nil) := RT.ex OWR.out hb3
          clear hb3 AC
          go_wp2_with fail
          go_roundw
          case rel => exact ⟨j + 1, z, by have := JL.out; omega, by go_num, rfl, fun h => ⟨(YES.out (by trivial)).1, fun i hi => by
            by_cases e : i < j
            · exact (YES.out (by trivial)).2 i e
            · have : i = j := by omega
              rw [this, ← HZ.out]; exact h⟩, fun h => Or.inr (fitAll_no JL.out (HZ.out.symm.trans h)), X3.out, OW3.out⟩
          case measure => have := JL.out; simp [intOf]; omega
      · have hje : j = len v := by omega
        subst hje
        cases ok with
        | false =>
          have AF : Hid (A = false) := by
            show _ = _
            rw [AA.out]
            rcases NOT.out rfl with h | h <;> rw [h] <;> simp
          go_wp2_with fail
          exact bodyPost_ret (v := .tuple #[.slice (some ⟨w.heap.size, 0, none⟩) 0 0, .bool false]) (by simp [results, Tryz.results7, go_sem]) rfl (NO.out _ _ _ XR.out AF.out)
        | true =>
          by_cases hne : G = len v
          · have TYV : Hid (fitL v) := (YES.out (by trivial)).2
            have HAT : Hid (A = true) := by
              show _ = _
              rw [AA.out, decide_eq_true hne, (YES.out (by trivial)).1, fitAll_yes TYV.out]; rfl
            have HK2 : Hid (K = true) := (YES.out (by trivial)).1
            have e0 : l.take l.length = l := List.take_length
            obtain ⟨q, hq, hq2, hq3, hq4⟩ := arity_find (Nat.le_refl l.length) (s := s) (by rw [e0]; exact HK.out.symm.trans HK2.out)
            rw [e0] at hq4
            have LENQ : Hid (len v = (l.getD q pm0).params.length) := by
              show _ = _
              rw [← hne, HG.out, hq4]
            have RQ : Hid (R = bodyK (callK l q) 6 (tE (l.getD q pm0).params v) (l.getD q pm0).binds (l.getD q pm0).says) := by
              show _ = _
              rw [RY.out HAT.out, callK_at hq2 l.length (Nat.le_refl _) PB.out hq]; rfl
            have hlq : (l.take q).length = q := by rw [List.length_take]; omega
            have SC : Hid (SCallsT (l.take q) la lc (callK l q)) := fun fn v' ha hvl hvf w' a' c' hq' hv' => by
              have h1 := I.out q (by have := HN.out; omega) (l.take q) hlq (by omega) (fun i hi => by rw [getD_take (by omega)]; exact PS0.out i (by omega)) (fun i hi => by rw [getD_take (by omega)]; exact FZ.out i (by omega)) la lc fn v' a' c' w' (by have := HL.out; omega) HL.out.2.2 hq' (by
                obtain ⟨i, hi, _, _, h4⟩ := arity_find (m := q) (by omega) ha
                rw [hvl, h4]
                have := (pureAt_yes (PB.out i (by omega))).2.2.1
                show (l.getD i pm0).params.length ≤ _
                omega) hv'
              have e1 : runK (l.take q) fn v' = callK l q fn v' := by
                have h2 : askK (l.take q) fn v' = true := by
                  rw [askK, pureB_take (by omega) PLN.out PB.out, ha, decide_eq_true hvl.symm, fitAll_yes hvf]; rfl
                rw [runK, if_pos h2, hlq, callK_take q (Nat.le_refl _)]
              rw [e1] at h1
              exact Calls.mono h1 fun _ _ h => h.p
            have BDY : Hid (∀ base B X nv tv a2 k2 a3 k3 w', base ≤ w'.heap.size → (∀ b, X b → b < base) → EnvT w' base B X (l.getD q pm0).params v nv tv → QS w' (fun b => b < base) (l.take q) la → BS w' (fun b => b < base) (l.getD q pm0).binds a2 → MS w' (fun b => b < base) (l.getD q pm0).says a3 → Calls Tryz.prog 24 #[.pointer (some ⟨B, 0, none⟩), .slice la q lc, .agg #[.slice a2 (blen (l.getD q pm0).binds) k2, .slice a3 (tlen (l.getD q pm0).says) k3]] w' (SbT X B nv tv R w')) := fun base B X nv tv a2 k2 a3 k3 w' hbw hXb hE hQ' hB' hM' => by
              obtain ⟨_, _, h60, hbok, _⟩ := pureAt_yes (PB.out q hq)
              obtain ⟨z1, z2, z3, z4, z5⟩ := FZ.out q hq
              have h1 := sbodyT_any (l.take q) la lc (callK l q) (okCallK_at q (by omega) fun j hj => PB.out j (by omega)) SC.out 6 base B X _ v nv tv _ a2 k2 _ a3 k3 w' (Nat.le_refl _) hbw hXb hE hQ' hbok TYV.out LENQ.out (by omega) z2 z3 z4 z5 hB' hM'
              rw [hlq, ← RQ.out] at h1
              exact h1
            have NM : Hid (∀ j, j < q → ((l.getD j pm0).name.toList == s.toList) = false) := hq3
            have HQ : Hid (q < l.length ∧ ((l.getD q pm0).name.toList == s.toList) = true) := ⟨hq, hq2⟩
            have QT : Hid (∀ w', Ex w w' → QA w' 0 (l.take q) la) := fun w' h => (QA_take (Q.out w' h) q (by omega)).1
            have P60 : Hid ((l.getD q pm0).params.length ≤ 60) := (pureAt_yes (PB.out q hq)).2.2.1
            have e5 : ((G : Int) != (len v : Int)) = false := by rw [hne]; simp
            clear hq hq2 hq3 hq4 e0 NO AA RR RY YES NOT HK HG HK2 hne PB hlq SC I RQ
            go_wp2_with fail
            go_loopw [8, 13] (fun ov i wr => ∃ j : Nat, j ≤ q ∧ i = .int .i64 j ∧ ov = .slice (some ⟨w.heap.size, 0, none⟩) 0 0 ∧ Ex w wr ∧ RT wr w.heap.size (fun _ => False) (.slice (some ⟨w.heap.size, 0, none⟩) 0 0) .nil) (fun _ i _ => l.length - (intOf i).toNat)
            case atStart => exact ⟨0, by omega, rfl, rfl, XR.out, OWR.out⟩
            case round =>
              obtain ⟨j, hj, rfl, rfl, hx, hown⟩ := hrel
              have XW : Hid (Ex w wr) := hx
              have OW : Hid (RT wr w.heap.size (fun _ => False) (.slice (some ⟨w.heap.size, 0, none⟩) 0 0) .nil) := hown
              have JQ0 : Hid (j ≤ q) := hj
              clear hx hown
              have hlt : j < l.length := by have := HQ.out.1; omega
              obtain ⟨lb, lo, hla, hlb, hls, hpt⟩ := QA_at (Q.out wr XW.out) (by omega)
              obtain ⟨f0, ⟨a1, k1, f1, hh1⟩, ⟨a2, k2, f2, hh2⟩, ⟨a3, k3, f3, hh3⟩⟩ := hpt j hlt
              have i1 : (j : Int) < (l.length : Int) := by omega
              have i0 : (0 : Int) ≤ (j : Int) := by omega
              have JL : Hid (j < l.length) := hlt
              have jb : l.length ≤ 1000000000 := HL.out.1
              have jc : j ≤ lc := by have := HL.out.2.1; omega
              have jc2 : lc ≤ 9223372036854775807 := HL.out.2.2
              cases he : (l.getD j pm0).name.toList == s.toList with
              | false =>
                subst hla
                have JQ : Hid (j ≠ q) := fun e => by have := HQ.out.2; rw [← e, he] at this; cases this
                obtain ⟨gn, hgn⟩ : ∃ g, g = (l.getD j pm0).name := ⟨_, rfl⟩
                rw [← hgn] at f0 he
                clear hh1 hh2 hh3 f1 f2 f3 hgn hpt hj
                go_wp2_with fail
                go_roundw
                case rel => exact ⟨j + 1, by have := JQ.out; have := JQ0.out; omega, by go_num, rfl, XW.out, OW.out⟩
                case measure => have := JL.out; simp [intOf]; omega
              | true =>
                have hjq : j = q := by
                  by_cases e : j = q
                  · exact e
                  · have := NM.out j (by omega); rw [he] at this; cases this
                subst hjq
                have VT : Hid (∀ w', Ex w w' → TTop w' (fun b => b < w.heap.size) (fun b => b < w.heap.size) v a) := fun w' h => (V.out w' h).ttop
                have QW : Hid (QS wr (fun b => b < wr.heap.size) (l.take j) la) := QS_mono (QT.out wr XW.out) fun b hb _ => hb
                have HBD : Hid (∀ B X nv tv w', Ex wr w' → (∀ b, X b → b < wr.heap.size) → EnvT w' wr.heap.size B X (l.getD j pm0).params v nv tv → Calls Tryz.prog 24 #[.pointer (some ⟨B, 0, none⟩), .slice la j lc, .agg #[.slice a2 (blen (l.getD j pm0).binds) k2, .slice a3 (tlen (l.getD j pm0).says) k3]] w' (SbT X B nv tv R w')) := fun B X nv tv w' hx hX hE => BDY.out wr.heap.size B X nv tv a2 k2 a3 k3 w' hx.size hX hE (QS_ks QW.out fun k _ hk => hx.block k hk) (BS_ks (BS_mono hh2 fun b hb _ => hb) fun k _ hk => hx.block k hk) (MS_ks (MS_mono hh3 fun b hb _ => hb) fun k _ hk => hx.block k hk)
                have HX1 : Hid (XA wr 0 (l.getD j pm0).params a1) := hh1.2
                have HP1 : Hid ((l.getD j pm0).params.length ≤ 60) := P60.out
                have HNL : Hid (len v = (l.getD j pm0).params.length) := LENQ.out
                obtain ⟨gn, hgn⟩ : ∃ g, g = (l.getD j pm0).name := ⟨_, rfl⟩
                obtain ⟨ns, hns⟩ : ∃ g, g = (l.getD j pm0).params := ⟨_, rfl⟩
                obtain ⟨gb, hgb⟩ : ∃ g, g = (l.getD j pm0).binds := ⟨_, rfl⟩
                obtain ⟨gs, hgs⟩ : ∃ g, g = (l.getD j pm0).says := ⟨_, rfl⟩
                rw [← hgn] at f0 he
                rw [← hns] at f1 HX1 HBD HP1 HNL
                rw [← hgb] at f2 HBD
                rw [← hgs] at f3 HBD
                clear hh1 hh2 hh3 hgn hns hgb hgs hpt BDY P60 LENQ QW QT HQ
                have hw0 : w.heap.size < wr.heap.size := by have := (RT.own OW.out w.heap.size rfl).2; exact this
                have HW0 : Hid (w.heap.size < wr.heap.size) := hw0
                have hXN : XA wr 0 ns a1 := HX1.out
                obtain ⟨SV, hSVe⟩ : ∃ SV : Nat → Prop, SV = fun b => b < w.heap.size := ⟨_, rfl⟩
                obtain ⟨TV, hTVe⟩ : ∃ TV : Nat → Prop, TV = fun b => b < w.heap.size := ⟨_, rfl⟩
                have hSVo : ∀ b, SV b → b < w.heap.size := fun b hb => by rw [hSVe] at hb; exact hb
                have hSV : ∀ b, SV b → b < wr.heap.size := fun b hb => by have := hSVo b hb; omega
                have hVV : TTop wr TV SV v a := by rw [hSVe, hTVe]; exact VT.out wr XW.out
                clear hSVe hTVe VT
                have h63 : ([] : List ByteArray).length + ns.length ≤ 1000000 := by have := HP1.out; show 0 + ns.length ≤ _; omega
                have h63v : len (.nil : F) + len v ≤ 1000000 := by have := HP1.out; have := HNL.out; show 0 + len v ≤ _; omega
                subst hla
                obtain ⟨W1, hW1⟩ : ∃ W1, W1 = wr := ⟨_, rfl⟩
                rw [← hW1] at hXN hVV hSV hw0 HW0 OW HBD XW f0 f1 f2 f3 hls ⊢
                clear hW1
                have zlb : lb < W1.heap.size := World.block_lt_of_cell? _ _ f0
                have HF : Hid (∀ w', Ex W1 w' → w'.cell? ⟨lb, lo + j * 4 + 1, none⟩ = some (.slice a1 ns.length k1) ∧ w'.cell? ⟨lb, lo + j * 4 + 2, none⟩ = some (.slice a2 (blen gb) k2) ∧ w'.cell? ⟨lb, lo + j * 4 + 2 + 1, none⟩ = some (.slice a3 (tlen gs) k3)) := fun w' h => ⟨h.at f1, h.at f2, h.at f3⟩
                go_wp2_with (at_builtin; refine wpList_plain rfl fun K hK => ?_; refine wp_names (.tmp 67) (.tmp 72) rfl W1.heap.size (by rw [World.size_alloc]; omega) (.slice (some ⟨W1.heap.size, 0, none⟩) 0 0) [] rfl (own_none_texts _ (Nat.le_refl _)) ns a1 k1 rfl (XA_below hXN (Ex.new _ _)) h63 ?_)
                intro v' wn g1 g2 g3
                obtain ⟨na2, nc2, rfl, _⟩ := XS_own g1
                refine hK _ _ ?_
                have XN : Hid (Ex W1 wn) := ex_grow (Ex.new _ _) g2 fun k hk => by simp [Value.ownBlock] at hk; omega
                have HG1 : Hid (wn.ownsRow W1.heap.size 9 1 (.slice na2 ns.length nc2) ns.length (ns.map Value.string)) := g1
                obtain ⟨f1n, f2n, f3n⟩ := HF.out wn XN.out
                have zn : W1.heap.size ≤ wn.heap.size := XN.out.size
                clear g1 g2 g3 f0 f1 f2 f3
                go_wp2_with (at_builtin; refine wpList_plain rfl fun K hK => ?_; refine wp_types (.tmp 74) (.tmp 75) rfl W1.heap.size (by rw [World.size_alloc]; omega) (.slice (some ⟨wn.heap.size, 0, none⟩) 0 0) .nil SV rfl (RT.empty wn W1.heap.size SV zn) (fun b hb e => by have := hSV b hb; simp [Value.ownBlock] at e; omega) v a c TV rfl (TTop.ex hVV (XN.out.trans (Ex.new _ _))) h63v ?_)
                intro v'' wv j1 j2 j3
                obtain ⟨ta2, tc2, rfl, _⟩ := RT.top j1
                refine hK _ _ ?_
                have zva : (wn.alloc (.cells #[] 55)).heap.size = wn.heap.size + 1 := World.size_alloc _ _
                have zv : wn.heap.size + 1 ≤ wv.heap.size := by have := j2.size; omega
                have XV : Hid (Ex W1 wv) := ex_grow (XN.out.trans (Ex.new _ _)) j2 fun k hk => by simp [Value.ownBlock] at hk; omega
                have rN : wv.ownsRow W1.heap.size 9 1 (.slice na2 ns.length nc2) ns.length (ns.map Value.string) := row_fr (row_ex HG1.out (Ex.new _ (.cells #[] 55))) fun g hg => j2.block g (by have := (World.ownsRow.lt HG1.out g hg).2; omega) fun e => by
                  have := (World.ownsRow.lt HG1.out g hg).2; simp [Value.ownBlock] at e; omega
                have dN : ∀ g, (Value.slice na2 ns.length nc2).ownBlock = some g → (Value.slice ta2 (len (catT .nil v (len v))) tc2).ownBlock ≠ some g := fun g hg hg' => by
                  have := (World.ownsRow.lt HG1.out g hg).2
                  rcases Moved.own j3 hg' with h | h
                  · simp [Value.ownBlock] at h; omega
                  · omega
                have RVV : RT wv W1.heap.size (Out3 (fun b => b = w.heap.size) wv.heap.size (.slice na2 ns.length nc2) (.slice ta2 (len (catT .nil v (len v))) tc2)) (.slice ta2 (len (catT .nil v (len v))) tc2) v := (RT.congr j1 v (by rw [catT_len]; show 0 + len v = _; omega) fun i hi => by
                  have h := catT_at .nil v (len v) i (by rw [catT_len] at hi; exact hi)
                  rw [if_neg (by show ¬ i < 0; omega)] at h
                  exact h).mono fun b hl hs => ⟨fun h => by have := hSVo b hs.1; have h2 : b = w.heap.size := h; omega, fun h => by
                    rcases h with h | h | h
                    · omega
                    · have := (rN.lt b h).1; have := hSV b hs.1; omega
                    · exact hs.2 h⟩
                have EI : Hid (EnvT (wv.alloc (.cells #[.slice na2 ns.length nc2, .slice ta2 (len (catT .nil v (len v))) tc2] 64)) W1.heap.size wv.heap.size (fun b => b = w.heap.size) ns v (.slice na2 ns.length nc2) (.slice ta2 (len (catT .nil v (len v))) tc2)) := ⟨heap_alloc_new _ _, by omega, row_ex rN (Ex.new _ _), RVV.ex (Ex.new _ _), fun h => by have := (rN.lt _ h).2; omega, fun h => by have := (RT.own RVV _ h).2; omega, dN⟩
                have XE : Hid (Ex W1 (wv.alloc (.cells #[.slice na2 ns.length nc2, .slice ta2 (len (catT .nil v (len v))) tc2] 64))) := XV.out.trans (Ex.new _ _)
                have OWN : Hid (∀ k, Own3 wv.heap.size (.slice na2 ns.length nc2) (.slice ta2 (len (catT .nil v (len v))) tc2) k → W1.heap.size ≤ k) := fun k hk => by
                  rcases hk with h | h | h
                  · omega
                  · exact (rN.lt k h).1
                  · exact (RT.own RVV k h).1
                have BO : Hid (∀ w', Ex (wv.alloc (.cells #[.slice na2 ns.length nc2, .slice ta2 (len (catT .nil v (len v))) tc2] 64)) w' → Calls Tryz.prog 24 #[.pointer (some ⟨wv.heap.size, 0, none⟩), .slice (some ⟨lb, lo, none⟩) j lc, .agg #[.slice a2 (blen gb) k2, .slice a3 (tlen gs) k3]] w' (SbT (fun b => b = w.heap.size) wv.heap.size (.slice na2 ns.length nc2) (.slice ta2 (len (catT .nil v (len v))) tc2) R w')) := fun w' h => HBD.out wv.heap.size _ _ _ w' (XE.out.trans h) (fun q hq => by have h : q = w.heap.size := hq; omega) (EI.out.ex h)
                have HC : Hid (w.heap.size < wv.heap.size) := by show _ < _; omega
                obtain ⟨W5, hW5⟩ : ∃ W5, W5 = wv.alloc (.cells #[.slice na2 ns.length nc2, .slice ta2 (len (catT .nil v (len v))) tc2] 64) := ⟨_, rfl⟩
                have HW5 : Hid (wv.alloc (.cells #[.slice na2 ns.length nc2, .slice ta2 (len (catT .nil v (len v))) tc2] 64) = W5) := hW5.symm
                rw [← hW5] at XE BO
                have KS : Hid (∀ w', Ex W1 w' → Ex W1 w' ∧ w'.cell? ⟨lb, lo + j * 4 + 2, none⟩ = some (.slice a2 (blen gb) k2) ∧ w'.cell? ⟨lb, lo + j * 4 + 2 + 1, none⟩ = some (.slice a3 (tlen gs) k3)) := fun w' h => ⟨h, (HF.out w' h).2⟩
                clear j1 j2 j3 rN RVV dN HBD EI f1n f2n f3n hW5
                obtain ⟨f1, f2, f3⟩ := HF.out wv XV.out
                have zlv : lb < wv.heap.size := World.block_lt_of_cell? _ _ f1
                clear f1 f2 f3
                go_upto_region 16 with fail
                rw [HW5.out]
                refine wp_region_held_drew (S := fun w' => Ex W1 w' ∧ w'.cell? ⟨lb, lo + j * 4 + 2, none⟩ = some (.slice a2 (blen gb) k2) ∧ w'.cell? ⟨lb, lo + j * 4 + 2 + 1, none⟩ = some (.slice a3 (tlen gs) k3)) (by kernel_rfl) (KS.out _ (XE.out.trans (Ex.refl _).drew)) (fun hHeld => ?_)
                refine wpAnyH_take (i := 0) (v := ?_) rfl (by kernel_rfl) (by kernel_rfl) (by kernel_rfl) (fun _ _ _ h => h) (Or.inl ⟨by rfl, ?_⟩) (by assumption) ?_
                rotate_left
                · (intro w' hSw; (try dsimp only at hSw); go_simp) <;> with_reducible rfl
                change wpAnyH Tryz.prog _ _ _ _ _ _ (Act.put _ (some 80) _) _
                (try simp only [Act.put, List.setIfInBounds_toArray, List.set_cons_zero, List.set_cons_succ])
                refine wpAnyH_take (i := 1) (v := ?_) rfl (by kernel_rfl) (by kernel_rfl) (by kernel_rfl) (fun _ _ _ h => h) (Or.inl ⟨by rfl, ?_⟩) (by assumption) ?_
                rotate_left
                · (intro w' hSw; (try dsimp only at hSw); go_simp) <;> with_reducible rfl
                change wpAnyH Tryz.prog _ _ _ _ _ _ (Act.put _ (some 81) _) _
                (try simp only [Act.put, List.setIfInBounds_toArray, List.set_cons_zero, List.set_cons_succ])
                refine wpAnyH_take (i := 2) (v := ?_) rfl (by kernel_rfl) (by kernel_rfl) (by kernel_rfl) (fun _ _ _ h => h) (Or.inl ⟨by rfl, ?_⟩) (by assumption) ?_
                rotate_left
                · (intro w' hSw; (try dsimp only at hSw); go_simp) <;> with_reducible rfl
                change wpAnyH Tryz.prog _ _ _ _ _ _ (Act.put _ (some 82) _) _
                (try simp only [Act.put, List.setIfInBounds_toArray, List.set_cons_zero, List.set_cons_succ])
                refine wpAnyH_take (i := 3) (v := ?_) rfl (by kernel_rfl) (by kernel_rfl) (by kernel_rfl) (fun _ _ _ h => h) (Or.inl ⟨by rfl, ?_⟩) (by assumption) ?_
                rotate_left
                · (intro w' hSw; (try dsimp only at hSw); go_simp) <;> with_reducible rfl
                change wpAnyH Tryz.prog _ _ _ _ _ _ (Act.put _ (some 83) _) _
                (try simp only [Act.put, List.setIfInBounds_toArray, List.set_cons_zero, List.set_cons_succ])
                refine wpAnyH_take (i := 4) (v := ?_) rfl (by kernel_rfl) (by kernel_rfl) (by kernel_rfl) (fun _ _ _ h => h) (Or.inl ⟨by rfl, ?_⟩) (by assumption) ?_
                rotate_left
                · (intro w' hSw; (try dsimp only at hSw); go_simp) <;> with_reducible rfl
                change wpAnyH Tryz.prog _ _ _ _ _ _ (Act.put _ (some 84) _) _
                (try simp only [Act.put, List.setIfInBounds_toArray, List.set_cons_zero, List.set_cons_succ])
                refine wpAnyH_take (i := 5) (v := ?_) rfl (by kernel_rfl) (by kernel_rfl) (by kernel_rfl) (fun _ _ _ h => h) (Or.inl ⟨by rfl, ?_⟩) (by assumption) ?_
                rotate_left
                · (intro w' hSw; (try dsimp only at hSw); go_simp) <;> with_reducible rfl
                change wpAnyH Tryz.prog _ _ _ _ _ _ (Act.put _ (some 85) _) _
                (try simp only [Act.put, List.setIfInBounds_toArray, List.set_cons_zero, List.set_cons_succ])
                refine wpAnyH_take (i := 6) (v := ?_) rfl (by kernel_rfl) (by kernel_rfl) (by kernel_rfl) (fun _ _ _ h => h) (Or.inl ⟨by rfl, ?_⟩) (by assumption) ?_
                rotate_left
                · (intro w' hSw; (try dsimp only at hSw); go_simp) <;> with_reducible rfl
                change wpAnyH Tryz.prog _ _ _ _ _ _ (Act.put _ (some 86) _) _
                (try simp only [Act.put, List.setIfInBounds_toArray, List.set_cons_zero, List.set_cons_succ])
                refine wpAnyH_take (i := 7) (v := ?_) rfl (by kernel_rfl) (by kernel_rfl) (by kernel_rfl) (fun _ _ _ h => h) (Or.inl ⟨by rfl, ?_⟩) (by assumption) ?_
                rotate_left
                · (intro w' hSw; (try dsimp only at hSw); go_simp) <;> with_reducible rfl
                change wpAnyH Tryz.prog _ _ _ _ _ _ (Act.put _ (some 87) _) _
                (try simp only [Act.put, List.setIfInBounds_toArray, List.set_cons_zero, List.set_cons_succ])
                refine wpAnyH_take (i := 8) (v := ?_) rfl (by kernel_rfl) (by kernel_rfl) (by kernel_rfl) (fun _ _ _ h => h) (Or.inl ⟨by rfl, ?_⟩) (by assumption) ?_
                rotate_left
                · (intro w' hSw; (try dsimp only at hSw); go_simp) <;> with_reducible rfl
                change wpAnyH Tryz.prog _ _ _ _ _ _ (Act.put _ (some 88) _) _
                (try simp only [Act.put, List.setIfInBounds_toArray, List.set_cons_zero, List.set_cons_succ])
                refine wpAnyH_ready (rs := [9]) (by kernel_rfl) (by simp) ?_
                refine AllReadyH.cons (i := 9) rfl (fun K hK => ?_) AllReadyH.nil
                go_simp
                refine Calls.mono (BO.out _ (Ex.refl _).drew) ?_
                rintro e w8 ⟨g, a5, c5, rfl, hev5, hV5, hF5⟩
                have hx8 : Ex W1 w8 := hF5.to_ex (XE.out.trans (Ex.refl _).drew) OWN.out
                have X8 : Hid (Ex W1 w8) := hx8
                have V8 : Hid (SA w8 (fun b => b ≠ w.heap.size) g a5) := hV5
                have EV8 : Hid (∀ v, R = some v → v = g) := hev5
                have RV8 : Hid (RT w8 w.heap.size (fun _ => False) (.slice (some ⟨w.heap.size, 0, none⟩) 0 0) .nil) := OW.out.ex hx8
                clear hHeld hev5 hV5 hF5 BO OWN
                cases R with
                | none =>
                  simp only [Option.isSome_none]
                  go_wp2_with fail
                  refine hK.out _ _ ?_ (fun hHeld => ?_)
                  · exact KS.out _ hx8
                  clear hK
                  (try simp only [Act.put, List.setIfInBounds_toArray, List.set_cons_zero, List.set_cons_succ])
                  refine wpAnyH_take (i := 10) (v := ?_) rfl (by kernel_rfl) (by kernel_rfl) (by kernel_rfl) (fun _ _ _ h => h) (Or.inl ⟨by rfl, ?_⟩) (by assumption) ?_
                  rotate_left
                  · (intro w' hSw; (try dsimp only at hSw); go_simp) <;> with_reducible rfl
                  change wpAnyH Tryz.prog _ _ _ _ _ _ (Act.put _ (some 79) _) _
                  (try simp only [Act.put, List.setIfInBounds_toArray, List.set_cons_zero, List.set_cons_succ])
                  refine wpAnyH_take (i := 11) (v := ?_) rfl (by kernel_rfl) (by kernel_rfl) (by kernel_rfl) (fun _ _ _ h => h) (Or.inl ⟨by rfl, ?_⟩) (by assumption) ?_
                  rotate_left
                  · (intro w' hSw; (try dsimp only at hSw); go_simp) <;> with_reducible rfl
                  change wpAnyH Tryz.prog _ _ _ _ _ _ (Act.put _ (some 90) _) _
                  (try simp only [Act.put, List.setIfInBounds_toArray, List.set_cons_zero, List.set_cons_succ])
                  refine wpAnyH_take (i := 12) (v := ?_) rfl (by kernel_rfl) (by kernel_rfl) (by kernel_rfl) (fun _ _ _ h => h) (Or.inl ⟨by rfl, ?_⟩) (by assumption) ?_
                  rotate_left
                  · (intro w' hSw; (try dsimp only at hSw); go_simp) <;> with_reducible rfl
                  change wpAnyH Tryz.prog _ _ _ _ _ _ (Act.put _ (some 91) _) _
                  (try simp only [Act.put, List.setIfInBounds_toArray, List.set_cons_zero, List.set_cons_succ])
                  refine wpAnyH_take (i := 13) (v := ?_) rfl (by kernel_rfl) (by kernel_rfl) (by kernel_rfl) (fun _ _ _ h => h) (Or.inl ⟨by rfl, ?_⟩) (by assumption) ?_
                  rotate_left
                  · (intro w' hSw; (try dsimp only at hSw); go_simp) <;> with_reducible rfl
                  change wpAnyH Tryz.prog _ _ _ _ _ _ (Act.put _ (some 15) _) _
                  (try simp only [Act.put, List.setIfInBounds_toArray, List.set_cons_zero, List.set_cons_succ])
                  refine wpAnyH_take (i := 14) (v := ?_) rfl (by kernel_rfl) (by kernel_rfl) (by kernel_rfl) (fun _ _ _ h => h) (Or.inl ⟨by rfl, ?_⟩) (by assumption) ?_
                  rotate_left
                  · (intro w' hSw; (try dsimp only at hSw); go_simp) <;> with_reducible rfl
                  change wpAnyH Tryz.prog _ _ _ _ _ _ (Act.put _ (some 16) _) _
                  (try simp only [Act.put, List.setIfInBounds_toArray, List.set_cons_zero, List.set_cons_succ])
                  clear hHeld hx8
                  refine wpAnyH_done (by kernel_rfl) ?_ _
                  go_wp2_with fail
                  go_loopw [8, 17] (fun ov i wr => ov = .slice (some ⟨w.heap.size, 0, none⟩) 0 0 ∧ i = .int .i64 0 ∧ Ex w wr) (fun _ _ _ => 1)
                  case atStart => exact ⟨rfl, rfl, XW.out.trans X8.out⟩
                  case round =>
                    obtain ⟨rfl, rfl, hxr⟩ := hrel
                    have XR2 : Hid (Ex w wr) := hxr
                    clear hxr
                    by_cases hg0 : 0 < len g
                    · have d1 : decide ((0 : Int) < (len g : Int)) = true := decide_eq_true (by omega)
                      have d2 : decide (0 < len g) = true := decide_eq_true hg0
                      go_wp2_with fail
                      exact bodyPost_ret (v := .tuple #[.slice (some ⟨w.heap.size, 0, none⟩) 0 0, .bool false]) (by simp [results, Tryz.results7, go_sem]) rfl ⟨_, 0, rfl, Or.inl rfl, XR2.out⟩
                    · have d1 : decide ((0 : Int) < (len g : Int)) = false := decide_eq_false (by omega)
                      have d2 : decide (0 < len g) = false := decide_eq_false hg0
                      go_wp2_with fail
                      exact bodyPost_ret (v := .tuple #[.slice (some ⟨w.heap.size, 0, none⟩) 0 0, .bool false]) (by simp [results, Tryz.results7, go_sem]) rfl ⟨_, 0, rfl, Or.inl rfl, XR2.out⟩
                | some r0 =>
                  have er : r0 = g := EV8.out r0 rfl
                  subst er
                  simp only [Option.isSome_some]
                  obtain ⟨tyr, lnr⟩ := RF.out r0 rfl
                  have TYR : Hid (fitL r0 ∧ len r0 ≤ 60) := ⟨tyr, lnr⟩
                  clear tyr lnr
                  go_wp2_with fail
                  refine hK.out _ _ ?_ (fun hHeld => ?_)
                  · exact KS.out _ hx8
                  clear hK
                  (try simp only [Act.put, List.setIfInBounds_toArray, List.set_cons_zero, List.set_cons_succ])
                  refine wpAnyH_take (i := 10) (v := ?_) rfl (by kernel_rfl) (by kernel_rfl) (by kernel_rfl) (fun _ _ _ h => h) (Or.inl ⟨by rfl, ?_⟩) (by assumption) ?_
                  rotate_left
                  · (intro w' hSw; (try dsimp only at hSw); go_simp) <;> with_reducible rfl
                  change wpAnyH Tryz.prog _ _ _ _ _ _ (Act.put _ (some 79) _) _
                  (try simp only [Act.put, List.setIfInBounds_toArray, List.set_cons_zero, List.set_cons_succ])
                  refine wpAnyH_take (i := 11) (v := ?_) rfl (by kernel_rfl) (by kernel_rfl) (by kernel_rfl) (fun _ _ _ h => h) (Or.inl ⟨by rfl, ?_⟩) (by assumption) ?_
                  rotate_left
                  · (intro w' hSw; (try dsimp only at hSw); go_simp) <;> with_reducible rfl
                  change wpAnyH Tryz.prog _ _ _ _ _ _ (Act.put _ (some 90) _) _
                  (try simp only [Act.put, List.setIfInBounds_toArray, List.set_cons_zero, List.set_cons_succ])
                  refine wpAnyH_take (i := 12) (v := ?_) rfl (by kernel_rfl) (by kernel_rfl) (by kernel_rfl) (fun _ _ _ h => h) (Or.inl ⟨by rfl, ?_⟩) (by assumption) ?_
                  rotate_left
                  · (intro w' hSw; (try dsimp only at hSw); go_simp) <;> with_reducible rfl
                  change wpAnyH Tryz.prog _ _ _ _ _ _ (Act.put _ (some 91) _) _
                  (try simp only [Act.put, List.setIfInBounds_toArray, List.set_cons_zero, List.set_cons_succ])
                  refine wpAnyH_take (i := 13) (v := ?_) rfl (by kernel_rfl) (by kernel_rfl) (by kernel_rfl) (fun _ _ _ h => h) (Or.inl ⟨by rfl, ?_⟩) (by assumption) ?_
                  rotate_left
                  · (intro w' hSw; (try dsimp only at hSw); go_simp) <;> with_reducible rfl
                  change wpAnyH Tryz.prog _ _ _ _ _ _ (Act.put _ (some 15) _) _
                  (try simp only [Act.put, List.setIfInBounds_toArray, List.set_cons_zero, List.set_cons_succ])
                  refine wpAnyH_take (i := 14) (v := ?_) rfl (by kernel_rfl) (by kernel_rfl) (by kernel_rfl) (fun _ _ _ h => h) (Or.inl ⟨by rfl, ?_⟩) (by assumption) ?_
                  rotate_left
                  · (intro w' hSw; (try dsimp only at hSw); go_simp) <;> with_reducible rfl
                  change wpAnyH Tryz.prog _ _ _ _ _ _ (Act.put _ (some 16) _) _
                  (try simp only [Act.put, List.setIfInBounds_toArray, List.set_cons_zero, List.set_cons_succ])
                  clear hHeld hx8
                  refine wpAnyH_done (by kernel_rfl) ?_ _
                  go_wp2_with fail
                  go_loopw [8, 17] (fun ov i wr => ∃ (m : Nat) (p : F), m ≤ len r0 ∧ i = .int .i64 m ∧ len p = m ∧ (∀ k, k < m → kid p k = kid r0 k) ∧ RT wr w.heap.size (fun b => w.heap.size ≤ b ∧ ov.ownBlock ≠ some b) ov p ∧ (∀ g, ov.ownBlock = some g → g = w.heap.size ∨ w8.heap.size ≤ g) ∧ FrS (fun b => b = w.heap.size) w8 wr) (fun _ i _ => len r0 - (intOf i).toNat)
                  case atStart => exact ⟨0, .nil, by omega, rfl, rfl, fun k hk => by omega, RT.mono RV8.out fun _ _ h => h.elim, fun g hg => Or.inl (by simpa [Value.ownBlock] using hg.symm), FrS.refl _ _⟩
                  case round =>
                    obtain ⟨m, p, hm, rfl, hlp, hall, hrv, hown, hfr⟩ := hrel
                    obtain ⟨av, ac, rfl, _⟩ := hrv.top
                    have LP : Hid (len p = m) := hlp
                    have AL : Hid (∀ k, k < m → kid p k = kid r0 k) := hall
                    have FR : Hid (FrS (fun b => b = w.heap.size) w8 wr) := hfr
                    have OWB : Hid (∀ g, (Value.slice av (len p) ac).ownBlock = some g → g = w.heap.size ∨ w8.heap.size ≤ g) := hown
                    have HRV : Hid (RT wr w.heap.size (fun b => w.heap.size ≤ b ∧ (Value.slice av (len p) ac).ownBlock ≠ some b) (.slice av (len p) ac) p) := hrv
                    have V9 : SA wr (fun b => b ≠ w.heap.size) r0 a5 := SA_ks V8.out fun b hb hl => hfr.block b hl hb
                    clear hall hrv hown hfr hlp
                    by_cases hml : m < len r0
                    · obtain ⟨b9, o9, rfl, hb9, hbs9, hk9⟩ := SA_at V9 (by omega)
                      obtain ⟨a0, k0, v1, hV0⟩ := hk9 m hml
                      have CO : Hid (∀ w', Ex wr w' → Calls Tryz.prog 25 #[.agg #[.slice a0 (len (kid r0 m)) k0]] w' fun e w'' => ∃ a' c', e = .returned (.agg #[.slice a' (len (kid r0 m)) c']) ∧ TA w'' w'.heap.size (kid r0 m) a' ∧ Ex w' w'') := fun w' h => by
                        have f1 := fits_sm _ _ (TYR.out.1 m hml)
                        exact l1Copy_any 4 (kid r0 m) a0 k0 0 w' (fits_dep _ _ (TYR.out.1 m hml)) (by omega) f1.2 (SA_mono (SA_ex hV0 h) fun _ _ _ => Nat.zero_le _)
                      have NX : Hid (∀ k, k < m + 1 → kid (snoc p 0 (kid r0 m)) k = kid r0 k) := fun k hk => by
                        rw [kid_snoc, LP.out]
                        by_cases e : k < m
                        · rw [if_pos e]; exact AL.out k e
                        · have ek : k = m := by omega
                          rw [if_neg e, if_pos ek, ek]
                      obtain ⟨g, hg⟩ : ∃ g, g = kid r0 m := ⟨_, rfl⟩
                      rw [← hg] at CO NX v1
                      have ML : Hid (m < len r0) := hml
                      have mi1 : (m : Int) < (len r0 : Int) := by omega
                      have mi0 : (0 : Int) ≤ (m : Int) := by omega
                      have ml60 : len r0 ≤ 60 := TYR.out.2
                      clear hk9 hV0 hg V9 hb9
                      go_wp2_with fail
                      refine Calls.mono (CO.out _ (Ex.refl _)) ?_
                      rintro e w9 ⟨a9, c9, rfl, hV9, hb9⟩
                      have zr9 := hb9.size
                      have zw : w.heap.size ≤ wr.heap.size := by have := (XW.out.trans X8.out).size; have := FR.out.size; omega
                      have X9 : Hid (Ex wr (w9.alloc (.cells #[.slice a9 (len g) c9] 55))) := hb9.trans (Ex.new _ _)
                      have zn9 : (w9.alloc (.cells #[.slice a9 (len g) c9] 55)).heap.size = w9.heap.size + 1 := World.size_alloc _ _
                      have olt : ∀ k, (Value.slice av (len p) ac).ownBlock = some k → w.heap.size ≤ k ∧ k < wr.heap.size := fun k hk => RT.own HRV.out k hk
                      have VG : SA (w9.alloc (.cells #[.slice a9 (len g) c9] 55)) (fun b => w.heap.size ≤ b ∧ (Value.slice av (len p) ac).ownBlock ≠ some b) g a9 := SA_mono (SA_ex hV9 (Ex.new _ _)) fun b _ hb => ⟨by have h : wr.heap.size ≤ b := hb; omega, fun e => by have h : wr.heap.size ≤ b := hb; have := (olt b e).2; omega⟩
                      have NT : TTop (w9.alloc (.cells #[.slice a9 (len g) c9] 55)) (fun b => b = w9.heap.size) (fun b => w.heap.size ≤ b ∧ (Value.slice av (len p) ac).ownBlock ≠ some b) (snoc .nil 0 g) (some ⟨w9.heap.size, 0, none⟩) := Or.inr ⟨w9.heap.size, 0, rfl, rfl, by omega, fun i hi => by
                        have h0 : i = 0 := by rw [len_snoc] at hi; have h : len (.nil : F) = 0 := rfl; omega
                        subst h0
                        exact ⟨a9, c9, by simp [snoc, kid], VG⟩⟩
                      have j6 : len p + len (snoc .nil 0 g) ≤ 1000000 := by rw [len_snoc, LP.out]; have h : len (.nil : F) = 0 := rfl; have := TYR.out.2; omega
                      have RVN : RT (w9.alloc (.cells #[.slice a9 (len g) c9] 55)) w.heap.size (fun b => w.heap.size ≤ b ∧ (Value.slice av (len p) ac).ownBlock ≠ some b) (.slice av (len p) ac) p := RT.ex HRV.out X9.out
                      clear hV9 VG CO
                      go_wp2_with (at_builtin; refine wpList_plain rfl fun K hK => ?_; refine wp_types (.tmp 101) (.tmp 107) rfl w.heap.size (by omega) (.slice av (len p) ac) p _ rfl RVN (fun b hb => hb.2) (snoc .nil 0 g) (some ⟨w9.heap.size, 0, none⟩) 1 _ rfl NT j6 ?_)
                      intro v' wv2 j1 j2 j3
                      obtain ⟨va3, vc3, rfl, _⟩ := RT.top j1
                      refine hK _ _ ?_
                      have J1 : Hid _ := j1
                      have J2 : Hid _ := j2
                      have J3 : Hid _ := j3
                      have Z9 : Hid (wr.heap.size ≤ w9.heap.size ∧ (w9.alloc (.cells #[.slice a9 (len g) c9] 55)).heap.size = w9.heap.size + 1) := ⟨zr9, zn9⟩
                      have e1 : len (catT p (snoc .nil 0 g) (len (snoc .nil 0 g))) = m + 1 := by rw [catT_len, LP.out]; rfl
                      have E1 : Hid (len (catT p (snoc .nil 0 g) (len (snoc .nil 0 g))) = m + 1) := e1
                      have E2 : Hid (catT p (snoc .nil 0 g) (len (snoc .nil 0 g)) = snoc p 0 g) := rfl
                      clear j1 j2 j3 RVN NT olt zn9 hb9 e1
                      go_wp2_with fail
                      go_roundw
                      case rel =>
                        refine ⟨m + 1, catT p (snoc .nil 0 g) (len (snoc .nil 0 g)), by have := ML.out; omega, by go_num, E1.out, by rw [E2.out]; exact NX.out, RT.mono J1.out fun b _ hb => ⟨hb.1.1, hb.2⟩, fun k hk => ?_, ?_⟩
                        · rcases Moved.own J3.out hk with h | h
                          · exact OWB.out k h
                          · have := Z9.out; have := FR.out.size; exact Or.inr (by omega)
                        · refine FR.out.out (T := fun b => (Value.slice av (len p) ac).ownBlock = some b) ⟨J2.out.os.trans X9.out.os, J2.out.tape.trans X9.out.tape, J2.out.output.trans X9.out.output, Nat.le_trans X9.out.size J2.out.size, fun k hk hn => (J2.out.block k (Nat.lt_of_lt_of_le hk X9.out.size) fun e => hn e.symm).trans (X9.out.block k hk)⟩ fun i hi ht => ?_
                          rcases OWB.out i ht with h | h
                          · exact h
                          · omega
                      case measure => have := ML.out; simp [intOf]; omega
                    · have hme : m = len r0 := by omega
                      have RVF : Hid (RT wr w.heap.size (fun b => w.heap.size ≤ b ∧ (Value.slice av (len p) ac).ownBlock ≠ some b) (.slice av (len p) ac) r0) := RT.congr HRV.out r0 (by rw [LP.out, hme]) fun i hi => AL.out i (by rw [LP.out] at hi; exact hi)
                      obtain ⟨av2, ac2, hav, hvt⟩ := RVF.out.top
                      have VF : Hid (SA wr (fun b => w.heap.size ≤ b) r0 av2) := hvt.sa (fun b _ hb => (RT.own RVF.out b hb).1) fun b _ hb => hb.1
                      have XF : Hid (Ex w wr) := FrS.to_ex FR.out (XW.out.trans X8.out) fun k hk => by have h : k = w.heap.size := hk; omega
                      rw [hav]
                      clear hvt hav hme
                      go_wp2_with fail
                      exact bodyPost_ret (v := .tuple #[.slice av2 (len r0) ac2, .bool true]) (by simp [results, Tryz.results7, go_sem]) rfl ⟨av2, ac2, rfl, VF.out, XF.out⟩
          · have AF : Hid (A = false) := by
              show _ = _
              rw [AA.out, decide_eq_false hne]; simp
            have e5 : ((G : Int) != (len v : Int)) = true := by
              rw [bne_iff_ne]; omega
            go_wp2_with fail
            exact bodyPost_ret (v := .tuple #[.slice (some ⟨w.heap.size, 0, none⟩) 0 0, .bool false]) (by simp [results, Tryz.results7, go_sem]) rfl (NO.out _ _ _ XR.out AF.out)

end Go.Proofs.YtgpdnoghlommeaaGreatDoor
