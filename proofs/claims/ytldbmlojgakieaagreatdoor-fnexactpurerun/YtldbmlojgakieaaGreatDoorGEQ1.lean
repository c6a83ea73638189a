/- Walks: a run told, by the specification. Walks: the same texts and terms compared. -/
import Derived.Test.YtldbmlojgakieaaGreatDoorGIS2
import Derived.Test.YtldbmlojgakieaaGreatDoorGRN8
import Derived.Test.YtldbmlojgakieaaGreatDoorBD6
import Derived.Test.YtldbmlojgakieaaGreatDoorGL4
import Derived.Test.YtldbmlojgakieaaGreatDoorGIM4
import Derived.Test.YtldbmlojgakieaaGreatDoorGTO0
import Derived.Deep.RegionHeld3
namespace Go.Proofs.YtldbmlojgakieaaGreatDoor

open Go.RowKit Go.Deep Go.Maps Go.WideMaps

attribute [local go_sem ↓] Go.wp_at_zero Go.wp_at_succ

theorem VTop.vs {w : World} {T S U : Nat → Prop} {f : F} {a : Option Addr} (h : VTop w T S f a) (hT : ∀ b, b < w.heap.size → T b → U b) (hS : ∀ b, b < w.heap.size → S b → U b) : VS w U f a := by
  rcases h with h | ⟨b, o, rfl, h1, h2, h3⟩
  · exact Or.inl h
  · exact VS_mk (hT b h2 h1) fun i hi => by
      obtain ⟨e, a', c', e2, hV⟩ := h3 i hi
      exact ⟨e, a', c', e2, VS_mono hV hS⟩
theorem VS.vtop {w : World} {S : Nat → Prop} {f : F} {a : Option Addr} (h : VS w S f a) : VTop w S S f a := by
  by_cases h0 : len f = 0
  · exact Or.inl h0
  · obtain ⟨b, o, e, h1, h2, h3⟩ := VS_at h (by omega)
    exact Or.inr ⟨b, o, e, h1, h2, h3⟩
theorem tyAll_at {v : F} (h : tyAll v = true) : tyL v := fun i hi => by
  simp only [tyAll, List.all_eq_true, List.mem_range] at h
  exact h i hi

/-- A run that is told, by the specification. -/
def SprP (asked : Bool) (R : Option F) (w : World) (e : Ending) (w' : World) : Prop := ∃ a' c', e = .returned (.tuple #[.slice a' (len (R.getD .nil)) c', .int .i64 (codeV asked R)]) ∧ VS w' (fun b => w.heap.size ≤ b) (R.getD .nil) a' ∧ Ex w w'

set_option maxRecDepth 100000 in
set_option maxHeartbeats 8000000 in
theorem sPureRun_any (lfs : List PM) (la : Option Addr) (lc : Nat) (s : ByteArray) (vs : F) (va : Option Addr) (vc : Nat) (w : World) (hl : lfs.length ≤ 1000000000) (hps : ∀ i, i < lfs.length → PSm (lfs.getD i pm0)) (hz : ∀ i, i < lfs.length → FSz (lfs.getD i pm0)) (hQ : QA w 0 lfs la)
    (hv : len vs ≤ 1000000000) (hsm : Sm vs) (hV : VA w 0 vs va) :
    Calls Tryz.prog 7 #[.slice la lfs.length lc, .string s, .slice va (len vs) vc] w (SprP (askV lfs s vs) (runV lfs s vs) w) := by
  have Q : Hid (∀ w', Ex w w' → QA w' 0 lfs la) := fun _ h => QA_below hQ h
  have V : Hid (∀ w', Ex w w' → VS w' (fun b => b < w.heap.size) vs va) := fun _ h => VS_ex (VS_mono (VS_mono hV (S' := fun _ => True) fun _ _ _ => trivial) fun b hb _ => hb) h
  have OKC : Hid (∀ w', Ex w w' → Calls Tryz.prog 20 #[.slice la lfs.length lc] w' fun e w'' => e = .returned (.bool (pureB lfs)) ∧ Ex w' w'') := fun w' h => sPureOk_any lfs la lc w' hl hps (QA_below hQ h)
  have ARC : Hid (∀ w', Ex w w' → Calls Tryz.prog 21 #[.slice la lfs.length lc, .int .i64 lfs.length, .string s] w' fun e w'' => e = .returned (.tuple #[.int .i64 (arityR lfs s).1, .int .i64 (arityR lfs s).2.1, .bool (arityR lfs s).2.2]) ∧ Ex w' w'') := fun w' h => by
    have h1 := l12Arity_any lfs la lc lfs.length s w' (Nat.le_refl _) hl (QA_below hQ h)
    rw [List.take_length] at h1
    exact h1
  have FZ : Hid (∀ i, i < lfs.length → FSz (lfs.getD i pm0)) := hz
  have HL : Hid (lfs.length ≤ 1000000000) := hl
  have HV : Hid (len vs ≤ 1000000000 ∧ Sm vs) := ⟨hv, hsm⟩
  obtain ⟨A, hA⟩ : ∃ A, A = askV lfs s vs := ⟨_, rfl⟩
  obtain ⟨R, hR⟩ : ∃ R, R = runV lfs s vs := ⟨_, rfl⟩
  have AA : Hid (A = (pureB lfs && ((arityR lfs s).2.2 && (decide ((arityR lfs s).1 = len vs) && tyAll vs)))) := hA
  have RR : Hid (A = false → R = none) := fun h => by rw [hR, runV, if_neg (by rw [← hA, h]; simp)]
  have RY : Hid (A = true → R = callV lfs lfs.length s vs) := fun h => by rw [hR, runV, if_pos (by rw [← hA, h])]
  have RT : Hid (∀ r, R = some r → tyL r ∧ len r ≤ 60) := fun r h => run_ty (hR.symm.trans h)
  rw [← hA, ← hR]
  have NO : Hid (∀ b n w', Ex w w' → A = false → SprP A R w (.returned (.tuple #[.slice (some ⟨b, 0, none⟩) 0 n, .int .i64 9])) w') := fun b n w' h ha => by rw [RR.out ha, ha]; exact ⟨_, _, rfl, Or.inl rfl, h⟩
  clear hA hR hQ hV hps hz
  go_enter Tryz.func7, Tryz.ntmps7
  go_wp2_with fail
  refine (OKC.out _ (Ex.new _ _)).mono ?_
  rintro e w1 ⟨rfl, hb1⟩
  have X1 : Hid (Ex w w1) := (Ex.new _ _).trans hb1
  have OW1 : Hid (RV w1 w.heap.size (fun _ => False) (.slice (some ⟨w.heap.size, 0, none⟩) 0 0) .nil) := (RV.empty w w.heap.size _ (Nat.le_refl _)).ex hb1
  clear hb1 OKC
  obtain ⟨bp, hbp⟩ : ∃ b, pureB lfs = b := ⟨_, rfl⟩
  rw [hbp] at AA ⊢
  cases bp with
  | false =>
    have AF : Hid (A = false) := AA.out
    go_wp2_with fail
    go_loopw [11, 12] (fun ok i wr => ∃ j : Nat, j ≤ len vs ∧ i = .int .i64 j ∧ ok = .bool false ∧ Ex w wr) (fun _ i _ => len vs - (intOf i).toNat)
    case atStart => exact ⟨0, by omega, rfl, rfl, X1.out⟩
    case round =>
      obtain ⟨j, hj, rfl, rfl, hx⟩ := hrel
      have XR : Hid (Ex w wr) := hx
      clear hx
      by_cases hlt : j < len vs
      · go_wp2_with fail
        go_roundw
        case rel => exact ⟨j + 1, by omega, by go_num, rfl, XR.out⟩
        case measure => simp [intOf]; omega
      · go_wp2_with fail
        exact bodyPost_ret (v := .tuple #[.slice (some ⟨w.heap.size, 0, none⟩) 0 0, .int .i64 9]) (by simp [results, Tryz.results7, go_sem]) rfl (NO.out _ _ _ XR.out AF.out)
  | true =>
    have PB : Hid (∀ j, j < lfs.length → pureAt lfs j = true) := (pureB_at hbp).2
    have PLN : Hid (lfs.length ≤ 10) := (pureB_at hbp).1
    clear hbp
    go_wp2_with fail
    refine (ARC.out _ X1.out).mono ?_
    rintro e w2 ⟨rfl, hb2⟩
    have X2 : Hid (Ex w w2) := X1.out.trans hb2
    have OW2 : Hid (RV w2 w.heap.size (fun _ => False) (.slice (some ⟨w.heap.size, 0, none⟩) 0 0) .nil) := RV.ex OW1.out hb2
    obtain ⟨K, hK⟩ : ∃ K, K = (arityR lfs s).2.2 := ⟨_, rfl⟩
    obtain ⟨G, hG⟩ : ∃ G, G = (arityR lfs s).1 := ⟨_, rfl⟩
    obtain ⟨G2, hG2⟩ : ∃ G, G = (arityR lfs s).2.1 := ⟨_, rfl⟩
    rw [← hK, ← hG, ← hG2]
    rw [← hK, ← hG] at AA
    have HK : Hid (K = (arityR lfs s).2.2) := hK
    have HG : Hid (G = (arityR lfs s).1) := hG
    clear hb2 ARC hK hG hG2
    go_wp2_with fail
    go_loopw [11, 12] (fun ok i wr => ∃ (j : Nat) (b : Bool), j ≤ len vs ∧ i = .int .i64 j ∧ ok = .bool b ∧ (b = true → K = true ∧ ∀ i, i < j → (vType 4 (num vs i) (kid vs i)).isSome = true) ∧ (b = false → K = false ∨ tyAll vs = false) ∧ Ex w wr ∧ RV wr w.heap.size (fun _ => False) (.slice (some ⟨w.heap.size, 0, none⟩) 0 0) .nil) (fun _ i _ => len vs - (intOf i).toNat)
    case atStart => exact ⟨0, K, by omega, rfl, rfl, fun h => ⟨h, fun i hi => by omega⟩, fun h => Or.inl h, X2.out, OW2.out⟩
    case round =>
      obtain ⟨j, ok, hj, rfl, rfl, hyes, hno, hx, hrv⟩ := hrel
      have XR : Hid (Ex w wr) := hx
      have OWR : Hid (RV wr w.heap.size (fun _ => False) (.slice (some ⟨w.heap.size, 0, none⟩) 0 0) .nil) := hrv
      clear hrv
      have YES : Hid _ := hyes
      have NOT : Hid _ := hno
      clear hx hyes hno
      by_cases hlt : j < len vs
      · have JL : Hid (j < len vs) := hlt
        cases ok with
        | false =>
          go_wp2_with fail
          go_roundw
          case rel => exact ⟨j + 1, false, by have := JL.out; omega, by go_num, rfl, fun h => (by cases h), NOT.out, XR.out, OWR.out⟩
          case measure => have := JL.out; simp [intOf]; omega
        | true =>
          obtain ⟨b, o, rfl, _, hbs, hk⟩ := VS_at (V.out wr XR.out) (by omega)
          obtain ⟨v0, a0, k0, v1, hV0⟩ := hk j hlt
          have AC : Hid (∀ w', Ex wr w' → Calls Tryz.prog 22 #[.agg #[.int .i64 (num vs j), .slice a0 (len (kid vs j)) k0]] w' fun e w'' => e = .returned (.bool (vType 4 (num vs j) (kid vs j)).isSome) ∧ Ex w' w'') := fun w' h => l1Any_any (num vs j) (kid vs j) a0 k0 0 w' (Sm_kid HV.out.2 j hlt).1 (Sm_kid HV.out.2 j hlt).2 (VS_mono (VS_ex hV0 h) fun _ _ _ => Nat.zero_le _)
          obtain ⟨z, hz⟩ : ∃ z, z = (vType 4 (num vs j) (kid vs j)).isSome := ⟨_, rfl⟩
          rw [← hz] at AC
          have HZ : Hid (z = (vType 4 (num vs j) (kid vs j)).isSome) := hz
          have i1 : (0 : Int) ≤ (j : Int) := by omega
          have i2 : (j : Int) < (len vs : Int) := by omega
          have hvl : len vs ≤ 1000000000 := HV.out.1
          clear hk hV0 hz
          go_wp2_with fail
          refine (AC.out _ (Ex.refl _)).mono ?_
          rintro e w3 ⟨rfl, hb3⟩
          have X3 : Hid (Ex w w3) := XR.out.trans hb3
          have OW3 : Hid (RV w3 w.heap.size (fun _ => False) (.slice (some ⟨w.heap.size, 0, none⟩) 0 0) .nil) := RV.ex OWR.out hb3
          clear hb3 AC
          go_wp2_with fail
          go_roundw
          case rel => exact ⟨j + 1, z, by have := JL.out; omega, by go_num, rfl, fun h => ⟨(YES.out (by trivial)).1, fun i hi => by
            by_cases e : i < j
            · exact (YES.out (by trivial)).2 i e
            · have : i = j := by omega
              rw [this, ← HZ.out]; exact h⟩, fun h => Or.inr (tyAll_no JL.out (HZ.out.symm.trans h)), X3.out, OW3.out⟩
          case measure => have := JL.out; simp [intOf]; omega
      · have hje : j = len vs := by omega
        subst hje
        cases ok with
        | false =>
          have AF : Hid (A = false) := by
            show _ = _
            rw [AA.out]
            rcases NOT.out rfl with h | h <;> rw [h] <;> simp
          go_wp2_with fail
          exact bodyPost_ret (v := .tuple #[.slice (some ⟨w.heap.size, 0, none⟩) 0 0, .int .i64 9]) (by simp [results, Tryz.results7, go_sem]) rfl (NO.out _ _ _ XR.out AF.out)
        | true =>
          by_cases hne : G = len vs
          · have TYV : Hid (tyL vs) := (YES.out (by trivial)).2
            have HAT : Hid (A = true) := by
              show _ = _
              rw [AA.out, decide_eq_true hne, (YES.out (by trivial)).1, tyAll_yes TYV.out]; rfl
            have HK2 : Hid (K = true) := (YES.out (by trivial)).1
            have e0 : lfs.take lfs.length = lfs := List.take_length
            obtain ⟨q, hq, hq2, hq3, hq4⟩ := arity_find (Nat.le_refl lfs.length) (s := s) (by rw [e0]; exact HK.out.symm.trans HK2.out)
            rw [e0] at hq4
            have LENQ : Hid (len vs = (lfs.getD q pm0).params.length) := by
              show _ = _
              rw [← hne, HG.out, hq4]
            have SC : Hid (∀ (w' : World) (base : Nat) (X : Nat → Prop) (a2 : Option Addr) (k2 : Nat) (a3 : Option Addr) (k3 : Nat), base ≤ w'.heap.size → QS w' (fun b => b < base) lfs la → BS w' (fun b => b < base) (lfs.getD q pm0).binds a2 → MS w' (fun b => b < base) (lfs.getD q pm0).says a3 → BodyAt w' base X (.slice la lfs.length lc) (lfs.getD q pm0).params vs (.agg #[.slice a2 (blen (lfs.getD q pm0).binds) k2, .slice a3 (tlen (lfs.getD q pm0).says) k3]) R) := by
              rw [RY.out HAT.out]
              exact scalls_ok lfs la lc HL.out FZ.out PB.out lfs.length (Nat.le_refl _) q s vs hq hq2 LENQ.out TYV.out
            have NM : Hid (∀ j, j < lfs.length → j ≠ q → ((lfs.getD j pm0).name.toList == s.toList) = false) := fun j hj hne => names_two PB.out hq hj hne hq2
            have HQ : Hid (q < lfs.length ∧ ((lfs.getD q pm0).name.toList == s.toList) = true) := ⟨hq, hq2⟩
            rw [HAT.out] at NO ⊢
            have e5 : ((G : Int) != (len vs : Int)) = false := by rw [hne]; simp
            have P60 : Hid (∀ j, j < lfs.length → (lfs.getD j pm0).params.length ≤ 60) := fun j hj => (pureAt_yes (PB.out j hj)).2.2.1
            clear hq hq2 hq3 hq4 e0 NO AA RR RY YES NOT HK HG HK2 hne TYV PB
            go_wp2_with fail
            go_loopw [8, 13] (fun ov i wr => ∃ j : Nat, j ≤ lfs.length ∧ i = .int .i64 j ∧ Ex w wr ∧ ((j ≤ q ∧ ov = .slice (some ⟨w.heap.size, 0, none⟩) 0 0 ∧ RV wr w.heap.size (fun _ => False) ov .nil) ∨ (q < j ∧ ∃ r a5 c5, R = some r ∧ ov = .slice a5 (len r) c5 ∧ VS wr (fun b => w.heap.size ≤ b) r a5))) (fun _ i _ => lfs.length - (intOf i).toNat)
            case atStart => exact ⟨0, by omega, rfl, XR.out, Or.inl ⟨by omega, rfl, OWR.out⟩⟩
            case round =>
              obtain ⟨j, hj, rfl, hx, hor⟩ := hrel
              have XW : Hid (Ex w wr) := hx
              have HOR : Hid _ := hor
              clear hx hor
              by_cases hlt : j < lfs.length
              · obtain ⟨lb, lo, hla, hlb, hls, hpt⟩ := QA_at (Q.out wr XW.out) (by omega)
                obtain ⟨f0, ⟨a1, k1, f1, hh1⟩, ⟨a2, k2, f2, hh2⟩, ⟨a3, k3, f3, hh3⟩⟩ := hpt j hlt
                have i1 : (j : Int) < (lfs.length : Int) := by omega
                have i0 : (0 : Int) ≤ (j : Int) := by omega
                have JL : Hid (j < lfs.length) := hlt
                have jb : lfs.length ≤ 1000000000 := HL.out
                cases he : (lfs.getD j pm0).name.toList == s.toList with
                | false =>
                  subst hla
                  have JQ : Hid (j ≠ q) := fun e => by have := HQ.out.2; rw [← e, he] at this; cases this
                  obtain ⟨gn, hgn⟩ : ∃ g, g = (lfs.getD j pm0).name := ⟨_, rfl⟩
                  rw [← hgn] at f0 he
                  clear hh1 hh2 hh3 f1 f2 f3 hgn hpt
                  rcases HOR.out with ⟨hjq, rfl, hown⟩ | ⟨hjq, r, a5, c5, hR5, rfl, hV5⟩
                  · have OW : Hid _ := hown
                    clear hown HOR
                    go_wp2_with fail
                    go_roundw
                    case rel => exact ⟨j + 1, by have := JL.out; omega, by go_num, XW.out, Or.inl ⟨by have := JQ.out; omega, rfl, OW.out⟩⟩
                    case measure => have := JL.out; simp [intOf]; omega
                  · have V5 : Hid _ := hV5
                    have R5 : Hid _ := hR5
                    clear hV5 hR5 HOR
                    go_wp2_with fail
                    go_roundw
                    case rel => exact ⟨j + 1, by have := JL.out; omega, by go_num, XW.out, Or.inr ⟨by omega, r, a5, c5, R5.out, rfl, V5.out⟩⟩
                    case measure => have := JL.out; simp [intOf]; omega
                | true =>
                  have hjq : j = q := by
                    by_cases e : j = q
                    · exact e
                    · have := NM.out j hlt e; rw [he] at this; cases this
                  subst hjq
                  rcases HOR.out with ⟨_, rfl, hown⟩ | ⟨hbad, _⟩
                  · have OW : Hid (RV wr w.heap.size (fun _ => False) (.slice (some ⟨w.heap.size, 0, none⟩) 0 0) .nil) := hown
                    have VT : Hid (∀ w', Ex w w' → VTop w' (fun b => b < w.heap.size) (fun b => b < w.heap.size) vs va) := fun w' h => (V.out w' h).vtop
                    have B2 : Hid (BS wr (fun b => b < wr.heap.size) (lfs.getD j pm0).binds a2) := BS_mono hh2 fun b hb _ => hb
                    have B3 : Hid (MS wr (fun b => b < wr.heap.size) (lfs.getD j pm0).says a3) := MS_mono hh3 fun b hb _ => hb
                    have QW : Hid (QS wr (fun b => b < wr.heap.size) lfs la) := QS_mono (Q.out wr XW.out) fun b hb _ => hb
                    have HBD : Hid _ := SC.out wr wr.heap.size (fun b => b = w.heap.size) a2 k2 a3 k3 (Nat.le_refl _) QW.out B2.out B3.out
                    have HX1 : Hid (XA wr 0 (lfs.getD j pm0).params a1) := hh1.2
                    have HP1 : Hid ((lfs.getD j pm0).params.length ≤ 60) := P60.out j hlt
                    have HNL : Hid (len vs = (lfs.getD j pm0).params.length) := LENQ.out
                    obtain ⟨gn, hgn⟩ : ∃ g, g = (lfs.getD j pm0).name := ⟨_, rfl⟩
                    obtain ⟨ns, hns⟩ : ∃ g, g = (lfs.getD j pm0).params := ⟨_, rfl⟩
                    obtain ⟨gb, hgb⟩ : ∃ g, g = (lfs.getD j pm0).binds := ⟨_, rfl⟩
                    obtain ⟨gs, hgs⟩ : ∃ g, g = (lfs.getD j pm0).says := ⟨_, rfl⟩
                    rw [← hgn] at f0 he
                    rw [← hns] at f1 HX1 HBD HP1 HNL
                    rw [← hgb] at f2 HBD
                    rw [← hgs] at f3 HBD
                    clear hh1 hh2 hh3 hgn hns hgb hgs hown hpt HOR
                    have hw0 : w.heap.size < wr.heap.size := by have := (RV.own OW.out w.heap.size rfl).2; exact this
                    have HW0 : Hid (w.heap.size < wr.heap.size) := hw0
                    have hXN : XA wr 0 ns a1 := HX1.out
                    have hVV : VTop wr (fun b => b < w.heap.size) (fun b => b < w.heap.size) vs va := VT.out wr XW.out
                    obtain ⟨SV, hSVe⟩ : ∃ SV : Nat → Prop, SV = fun b => b < w.heap.size := ⟨_, rfl⟩
                    obtain ⟨TV, hTVe⟩ : ∃ TV : Nat → Prop, TV = fun b => b < w.heap.size := ⟨_, rfl⟩
                    have hSVo : ∀ b, SV b → b < w.heap.size := fun b hb => by rw [hSVe] at hb; exact hb
                    have hSV : ∀ b, SV b → b < wr.heap.size := fun b hb => by have := hSVo b hb; omega
                    have hVV2 : VTop wr TV SV vs va := by rw [hSVe, hTVe]; exact hVV
                    clear hVV hSVe hTVe
                    have hVV := hVV2
                    clear hVV2
                    have h63 : ([] : List ByteArray).length + ns.length ≤ 1000000 := by have := HP1.out; show 0 + ns.length ≤ _; omega
                    have h63v : len (.nil : F) + len vs ≤ 1000000 := by have := HP1.out; have := HNL.out; show 0 + len vs ≤ _; omega
                    subst hla
                    obtain ⟨W1, hW1⟩ : ∃ W1, W1 = wr := ⟨_, rfl⟩
                    have KS : Hid (∀ w', Ex wr w' → Ex wr w' ∧ w'.cell? ⟨lb, lo + j * 4 + 1, none⟩ = some (.slice a1 ns.length k1)) := fun w' h => ⟨h, h.at f1⟩
                    rw [← hW1] at KS hXN hVV hSV hw0 HW0 OW HBD XW f0 f1 f2 f3 hls ⊢
                    clear hW1 QW B2 B3
                    have zlb : lb < W1.heap.size := World.block_lt_of_cell? _ _ f0
                    have HF : Hid (∀ w', Ex W1 w' → w'.cell? ⟨lb, lo + j * 4 + 1, none⟩ = some (.slice a1 ns.length k1) ∧ w'.cell? ⟨lb, lo + j * 4 + 2, none⟩ = some (.slice a2 (blen gb) k2) ∧ w'.cell? ⟨lb, lo + j * 4 + 3, none⟩ = some (.slice a3 (tlen gs) k3)) := fun w' h => ⟨h.at f1, h.at f2, h.at f3⟩
                    go_wp2_with (at_builtin; refine wpList_plain rfl fun K hK => ?_; refine wp_names (.tmp 66) (.tmp 71) rfl W1.heap.size (by rw [World.size_alloc]; omega) (.slice (some ⟨W1.heap.size, 0, none⟩) 0 0) [] rfl (own_none_texts _ (Nat.le_refl _)) ns a1 k1 rfl (XA_below hXN (Ex.new _ _)) h63 ?_)
                    intro v' wn g1 g2 g3
                    obtain ⟨na2, nc2, rfl, _⟩ := XS_own g1
                    refine hK _ _ ?_
                    have XN : Hid (Ex W1 wn) := ex_grow (Ex.new _ _) g2 fun k hk => by simp [Value.ownBlock] at hk; omega
                    have HG1 : Hid (wn.ownsRow W1.heap.size 9 1 (.slice na2 ns.length nc2) ns.length (ns.map Value.string)) := g1
                    obtain ⟨f1n, f2n, f3n⟩ := HF.out wn XN.out
                    have zn : W1.heap.size ≤ wn.heap.size := XN.out.size
                    clear g1 g2 g3 f0 f1 f2 f3
                    go_wp2_with (at_builtin; refine wpList_plain rfl fun K hK => ?_; refine wp_vals (.tmp 73) (.tmp 74) rfl W1.heap.size (by rw [World.size_alloc]; omega) (.slice (some ⟨wn.heap.size, 0, none⟩) 0 0) .nil SV rfl (RV.empty wn W1.heap.size SV zn) (fun b hb e => by have := hSV b hb; simp [Value.ownBlock] at e; omega) vs va vc TV rfl (VTop_ex hVV (XN.out.trans (Ex.new _ _))) h63v ?_)
                    intro v'' wv j1 j2 j3
                    obtain ⟨va2, vc2, rfl, _⟩ := RV.top j1
                    refine hK _ _ ?_
                    have zva : (wn.alloc (.cells #[] 55)).heap.size = wn.heap.size + 1 := World.size_alloc _ _
                    have zv : wn.heap.size + 1 ≤ wv.heap.size := by have := j2.size; omega
                    have XV : Hid (Ex W1 wv) := ex_grow (XN.out.trans (Ex.new _ _)) j2 fun k hk => by simp [Value.ownBlock] at hk; omega
                    have rN : wv.ownsRow W1.heap.size 9 1 (.slice na2 ns.length nc2) ns.length (ns.map Value.string) := row_fr (row_ex HG1.out (Ex.new _ (.cells #[] 55))) fun g hg => j2.block g (by have := (World.ownsRow.lt HG1.out g hg).2; omega) fun e => by
                      have := (World.ownsRow.lt HG1.out g hg).2; simp [Value.ownBlock] at e; omega
                    have dN : ∀ g, (Value.slice na2 ns.length nc2).ownBlock = some g → (Value.slice va2 (len (catF .nil vs (len vs))) vc2).ownBlock ≠ some g := fun g hg hg' => by
                      have := (World.ownsRow.lt HG1.out g hg).2
                      rcases Moved.own j3 hg' with h | h
                      · simp [Value.ownBlock] at h; omega
                      · omega
                    have RVV : RV wv W1.heap.size (Out3 (fun b => b = w.heap.size) wv.heap.size (.slice na2 ns.length nc2) (.slice va2 (len (catF .nil vs (len vs))) vc2)) (.slice va2 (len (catF .nil vs (len vs))) vc2) vs := (RV.congr j1 vs (by rw [catF_len]; show 0 + len vs = _; omega) fun i hi => by
                      have h := catF_at .nil vs (len vs) i (by rw [catF_len] at hi; exact hi)
                      rw [if_neg (by show ¬ i < 0; omega), if_neg (by show ¬ i < 0; omega)] at h
                      exact h).mono fun b hl hs => ⟨fun h => by have := hSVo b hs.1; have h2 : b = w.heap.size := h; omega, fun h => by
                        rcases h with h | h | h
                        · omega
                        · have := (rN.lt b h).1; have := hSV b hs.1; omega
                        · exact hs.2 h⟩
                    have EI : Hid (EnvAt (wv.alloc (.cells #[.slice (some ⟨lb, lo, none⟩) lfs.length lc, .slice na2 ns.length nc2, .slice va2 (len (catF .nil vs (len vs))) vc2, .bool false] 64)) W1.heap.size wv.heap.size (fun b => b = w.heap.size) (.slice (some ⟨lb, lo, none⟩) lfs.length lc) ns vs false (.slice na2 ns.length nc2) (.slice va2 (len (catF .nil vs (len vs))) vc2)) := ⟨heap_alloc_new _ _, by omega, row_ex rN (Ex.new _ _), RVV.ex (Ex.new _ _), fun h => by have := (rN.lt _ h).2; omega, fun h => by have := (RV.own RVV _ h).2; omega, dN⟩
                    have XE : Hid (Ex W1 (wv.alloc (.cells #[.slice (some ⟨lb, lo, none⟩) lfs.length lc, .slice na2 ns.length nc2, .slice va2 (len (catF .nil vs (len vs))) vc2, .bool false] 64))) := XV.out.trans (Ex.new _ _)
                    have BO : Hid (Calls Tryz.prog 23 #[.pointer (some ⟨wv.heap.size, 0, none⟩), .agg #[.slice a2 (blen gb) k2, .slice a3 (tlen gs) k3]] (wv.alloc (.cells #[.slice (some ⟨lb, lo, none⟩) lfs.length lc, .slice na2 ns.length nc2, .slice va2 (len (catF .nil vs (len vs))) vc2, .bool false] 64)) (SbP wv.heap.size (fun b => b = w.heap.size) (.slice (some ⟨lb, lo, none⟩) lfs.length lc) (.slice na2 ns.length nc2) (.slice va2 (len (catF .nil vs (len vs))) vc2) R (wv.alloc (.cells #[.slice (some ⟨lb, lo, none⟩) lfs.length lc, .slice na2 ns.length nc2, .slice va2 (len (catF .nil vs (len vs))) vc2, .bool false] 64)))) := HBD.out W1.heap.size wv.heap.size _ _ _ (Nat.le_refl _) XE.out.size (fun q hq => by have h : q = w.heap.size := hq; omega) EI.out (fun k hk => XE.out.block k hk) XE.out.size
                    have OWN : Hid (∀ k, Own3 wv.heap.size (.slice na2 ns.length nc2) (.slice va2 (len (catF .nil vs (len vs))) vc2) k → W1.heap.size ≤ k) := fun k hk => by
                      rcases hk with h | h | h
                      · omega
                      · exact (rN.lt k h).1
                      · exact (RV.own RVV k h).1
                    have HC : Hid (w.heap.size < wv.heap.size) := by show _ < _; omega
                    clear j1 j2 j3 rN RVV dN HBD EI f1n f2n f3n
                    obtain ⟨f1, f2, f3⟩ := HF.out wv XV.out
                    have f3' : wv.cell? ⟨lb, lo + j * 4 + 2 + 1, none⟩ = some (.slice a3 (tlen gs) k3) := f3
                    have zlv : lb < wv.heap.size := World.block_lt_of_cell? _ _ f1
                    clear f1 f3
                    go_wp2_with fail
                    refine Calls.mono BO.out ?_
                    rintro e w8 ⟨r, a5, c5, nv5, vv5, rfl, hev5, hV5, hB5, hF5⟩
                    have X8 : Hid (Ex W1 w8) := hF5.to_ex XE.out OWN.out
                    have V8 : Hid (VS w8 (fun b => b ≠ w.heap.size) r a5) := hV5.vs (fun b _ hb => by have := Nat.le_trans XE.out.size hb; have := HW0.out; omega) fun b _ hb => hb
                    have RV8 : Hid (RV w8 w.heap.size (fun _ => False) (.slice (some ⟨w.heap.size, 0, none⟩) 0 0) .nil) := OW.out.ex X8.out
                    have EV8 : Hid (∀ v, R = some v → v = r) := hev5
                    obtain ⟨y0, y1, y2, y3⟩ := hB5.cell
                    clear hev5 hV5 hB5 hF5 BO OWN XE f2 f3'
                    cases R with
                    | none =>
                      simp only [Option.isNone_none] at y3
                      go_wp2_with fail
                      exact bodyPost_ret (v := .tuple #[.slice (some ⟨w.heap.size, 0, none⟩) 0 0, .int .i64 1]) (by simp [results, Tryz.results7, go_sem]) rfl ⟨_, _, by rw [HAT.out]; rfl, Or.inl rfl, XW.out.trans X8.out⟩
                    | some r0 =>
                      have er : r0 = r := EV8.out r0 rfl
                      subst er
                      simp only [Option.isNone_some] at y3
                      obtain ⟨tyr, lnr⟩ := RT.out r0 rfl
                      have TYR : Hid (tyL r0 ∧ len r0 ≤ 60) := ⟨tyr, lnr⟩
                      clear tyr lnr
                      go_wp2_with fail
                      clear y0 y1 y2 y3
                      go_loopw [8, 16] (fun ov i wr => ∃ (m : Nat) (p : F), m ≤ len r0 ∧ i = .int .i64 m ∧ len p = m ∧ (∀ k, k < m → num p k = num r0 k ∧ kid p k = kid r0 k) ∧ RV wr w.heap.size (fun b => w.heap.size ≤ b ∧ ov.ownBlock ≠ some b) ov p ∧ (∀ g, ov.ownBlock = some g → g = w.heap.size ∨ w8.heap.size ≤ g) ∧ FrS (fun b => b = w.heap.size) w8 wr) (fun _ i _ => len r0 - (intOf i).toNat)
                      case atStart => exact ⟨0, .nil, by omega, rfl, rfl, fun k hk => by omega, RV.mono RV8.out fun _ _ h => h.elim, fun g hg => Or.inl (by simpa [Value.ownBlock] using hg.symm), FrS.refl _ _⟩
                      case round =>
                        obtain ⟨m, p, hm, rfl, hlp, hall, hrv, hown, hfr⟩ := hrel
                        obtain ⟨av, ac, rfl, _⟩ := hrv.top
                        have LP : Hid (len p = m) := hlp
                        have AL : Hid (∀ k, k < m → num p k = num r0 k ∧ kid p k = kid r0 k) := hall
                        have FR : Hid (FrS (fun b => b = w.heap.size) w8 wr) := hfr
                        have OWB : Hid (∀ g, (Value.slice av (len p) ac).ownBlock = some g → g = w.heap.size ∨ w8.heap.size ≤ g) := hown
                        have HRV : Hid (RV wr w.heap.size (fun b => w.heap.size ≤ b ∧ (Value.slice av (len p) ac).ownBlock ≠ some b) (.slice av (len p) ac) p) := hrv
                        have V9 : VS wr (fun b => b ≠ w.heap.size) r0 a5 := VS_ks V8.out fun b hb hl => hfr.block b hl hb
                        clear hall hrv hown hfr hlp
                        by_cases hml : m < len r0
                        · obtain ⟨b9, o9, rfl, hb9, hbs9, hk9⟩ := VS_at V9 (by omega)
                          obtain ⟨v0, a0, k0, v1, hV0⟩ := hk9 m hml
                          have CO : Hid (∀ w', Ex wr w' → Calls Tryz.prog 24 #[.agg #[.int .i64 (num r0 m), .slice a0 (len (kid r0 m)) k0]] w' (AnPost (num r0 m) (kid r0 m) w')) := fun w' h => by
                            have htj := TYR.out.1 m hml
                            cases hv4 : vType 4 (num r0 m) (kid r0 m) with
                            | none => rw [hv4] at htj; cases htj
                            | some u =>
                              obtain ⟨z1, z2, z3⟩ := vType_sm 4 _ _ u hv4
                              exact l1Anew_any (dep (kid r0 m) + 1) _ _ a0 k0 0 w' (by omega) (by omega) z2 (VS_mono (VS_ex hV0 h) fun _ _ _ => Nat.zero_le _)
                          have NX : Hid (∀ k, k < m + 1 → num (snoc p (num r0 m) (kid r0 m)) k = num r0 k ∧ kid (snoc p (num r0 m) (kid r0 m)) k = kid r0 k) := fun k hk => by
                            rw [num_snoc, kid_snoc, LP.out]
                            by_cases e : k < m
                            · rw [if_pos e, if_pos e]; exact AL.out k e
                            · have ek : k = m := by omega
                              rw [if_neg e, if_neg e, if_pos ek, if_pos ek, ek]; exact ⟨rfl, rfl⟩
                          obtain ⟨u, hu⟩ : ∃ u, u = num r0 m := ⟨_, rfl⟩
                          obtain ⟨g, hg⟩ : ∃ g, g = kid r0 m := ⟨_, rfl⟩
                          rw [← hu, ← hg] at CO NX
                          rw [← hu] at v0
                          rw [← hg] at v1
                          have ML : Hid (m < len r0) := hml
                          have mi1 : (m : Int) < (len r0 : Int) := by omega
                          have mi0 : (0 : Int) ≤ (m : Int) := by omega
                          have ml60 : len r0 ≤ 60 := TYR.out.2
                          clear hk9 hV0 hu hg V9 hb9
                          go_wp2_with fail
                          refine Calls.mono (CO.out _ (Ex.refl _)) ?_
                          rintro e w9 ⟨a9, c9, rfl, hV9, hb9⟩
                          have zr9 := hb9.size
                          have zw : w.heap.size ≤ wr.heap.size := by have := (XW.out.trans X8.out).size; have := FR.out.size; omega
                          have X9 : Hid (Ex wr (w9.alloc (.cells #[.int .i64 u, .slice a9 (len g) c9] 55))) := hb9.trans (Ex.new _ _)
                          have zn9 : (w9.alloc (.cells #[.int .i64 u, .slice a9 (len g) c9] 55)).heap.size = w9.heap.size + 1 := World.size_alloc _ _
                          have olt : ∀ k, (Value.slice av (len p) ac).ownBlock = some k → w.heap.size ≤ k ∧ k < wr.heap.size := fun k hk => RV.own HRV.out k hk
                          have VG : VS (w9.alloc (.cells #[.int .i64 u, .slice a9 (len g) c9] 55)) (fun b => w.heap.size ≤ b ∧ (Value.slice av (len p) ac).ownBlock ≠ some b) g a9 := VS_mono (VS_ex hV9.va (Ex.new _ _)) fun b _ hb => ⟨by have h : wr.heap.size ≤ b := hb; omega, fun e => by have h : wr.heap.size ≤ b := hb; have := (olt b e).2; omega⟩
                          have NT : VTop (w9.alloc (.cells #[.int .i64 u, .slice a9 (len g) c9] 55)) (fun b => b = w9.heap.size) (fun b => w.heap.size ≤ b ∧ (Value.slice av (len p) ac).ownBlock ≠ some b) (snoc .nil u g) (some ⟨w9.heap.size, 0, none⟩) := Or.inr ⟨w9.heap.size, 0, rfl, rfl, by omega, fun i hi => by
                            have h0 : i = 0 := by rw [len_snoc] at hi; have h : len (.nil : F) = 0 := rfl; omega
                            subst h0
                            exact ⟨by simp [snoc, num], a9, c9, by simp [snoc, kid], VG⟩⟩
                          have j6 : len p + len (snoc .nil u g) ≤ 1000000 := by rw [len_snoc, LP.out]; have h : len (.nil : F) = 0 := rfl; have := TYR.out.2; omega
                          have RVN : RV (w9.alloc (.cells #[.int .i64 u, .slice a9 (len g) c9] 55)) w.heap.size (fun b => w.heap.size ≤ b ∧ (Value.slice av (len p) ac).ownBlock ≠ some b) (.slice av (len p) ac) p := RV.ex HRV.out X9.out
                          clear hV9 VG CO
                          go_wp2_with (at_builtin; refine wpList_plain rfl fun K hK => ?_; refine wp_vals (.tmp 96) (.tmp 102) rfl w.heap.size (by omega) (.slice av (len p) ac) p _ rfl RVN (fun b hb => hb.2) (snoc .nil u g) (some ⟨w9.heap.size, 0, none⟩) 1 _ rfl NT j6 ?_)
                          intro v' wv2 j1 j2 j3
                          obtain ⟨va3, vc3, rfl, _⟩ := RV.top j1
                          refine hK _ _ ?_
                          have J1 : Hid _ := j1
                          have J2 : Hid _ := j2
                          have J3 : Hid _ := j3
                          have Z9 : Hid (wr.heap.size ≤ w9.heap.size ∧ (w9.alloc (.cells #[.int .i64 u, .slice a9 (len g) c9] 55)).heap.size = w9.heap.size + 1) := ⟨zr9, zn9⟩
                          have e1 : len (catF p (snoc .nil u g) (len (snoc .nil u g))) = m + 1 := by rw [catF_len, LP.out]; rfl
                          have E1 : Hid (len (catF p (snoc .nil u g) (len (snoc .nil u g))) = m + 1) := e1
                          have E2 : Hid (catF p (snoc .nil u g) (len (snoc .nil u g)) = snoc p u g) := rfl
                          clear j1 j2 j3 RVN NT olt zn9 hb9 e1
                          go_wp2_with fail
                          go_roundw
                          case rel =>
                            refine ⟨m + 1, catF p (snoc .nil u g) (len (snoc .nil u g)), by have := ML.out; omega, by go_num, E1.out, by rw [E2.out]; exact NX.out, RV.mono J1.out fun b _ hb => ⟨hb.1.1, hb.2⟩, fun k hk => ?_, ?_⟩
                            · rcases Moved.own J3.out hk with h | h
                              · exact OWB.out k h
                              · have := Z9.out; have := FR.out.size; exact Or.inr (by omega)
                            · refine FR.out.out (T := fun b => (Value.slice av (len p) ac).ownBlock = some b) ⟨J2.out.os.trans X9.out.os, J2.out.tape.trans X9.out.tape, J2.out.output.trans X9.out.output, Nat.le_trans X9.out.size J2.out.size, fun k hk hn => (J2.out.block k (Nat.lt_of_lt_of_le hk X9.out.size) fun e => hn e.symm).trans (X9.out.block k hk)⟩ fun i hi ht => ?_
                              rcases OWB.out i ht with h | h
                              · exact h
                              · omega
                          case measure => have := ML.out; simp [intOf]; omega
                        · have hme : m = len r0 := by omega
                          have RVF : Hid (RV wr w.heap.size (fun b => w.heap.size ≤ b ∧ (Value.slice av (len p) ac).ownBlock ≠ some b) (.slice av (len p) ac) r0) := RV.congr HRV.out r0 (by rw [LP.out, hme]) fun i hi => AL.out i (by rw [LP.out] at hi; exact hi)
                          obtain ⟨av2, ac2, hav, hvt⟩ := RVF.out.top
                          have VF : Hid (VS wr (fun b => w.heap.size ≤ b) r0 av2) := hvt.vs (fun b _ hb => (RV.own RVF.out b hb).1) fun b _ hb => hb.1
                          have XF : Hid (Ex w wr) := FrS.to_ex FR.out (XW.out.trans X8.out) fun k hk => by have h : k = w.heap.size := hk; omega
                          rw [hav]
                          clear hvt hav hme
                          go_wp2_with fail
                          go_roundw
                          case rel => exact ⟨j + 1, by have := JL.out; omega, by go_num, XF.out, Or.inr ⟨by omega, r0, av2, ac2, rfl, rfl, VF.out⟩⟩
                          case measure => have := JL.out; simp [intOf]; omega
                  · exfalso; omega
              · have hje : j = lfs.length := by omega
                rcases HOR.out with ⟨hjq, _, _⟩ | ⟨hjq, r, a5, c5, hR5, rfl, hV5⟩
                · exfalso; have := HQ.out.1; omega
                · have V5 : Hid _ := hV5
                  have R5 : Hid _ := hR5
                  clear hV5 hR5 HOR
                  go_wp2_with fail
                  exact bodyPost_ret (v := .tuple #[.slice a5 (len r) c5, .int .i64 0]) (by simp [results, Tryz.results7, go_sem]) rfl ⟨a5, c5, by rw [R5.out, HAT.out]; rfl, by rw [R5.out]; exact V5.out, XW.out⟩
          · have AF : Hid (A = false) := by
              show _ = _
              rw [AA.out, decide_eq_false hne]; simp
            have e5 : ((G : Int) != (len vs : Int)) = true := by
              rw [bne_iff_ne]; omega
            go_wp2_with fail
            exact bodyPost_ret (v := .tuple #[.slice (some ⟨w.heap.size, 0, none⟩) 0 0, .int .i64 9]) (by simp [results, Tryz.results7, go_sem]) rfl (NO.out _ _ _ XR.out AF.out)

end Go.Proofs.YtldbmlojgakieaaGreatDoor

namespace Go.Proofs.YtldbmlojgakieaaGreatDoor

open Go.RowKit Go.Deep

attribute [local go_sem ↓] Go.wp_at_zero Go.wp_at_succ

set_option maxRecDepth 100000 in
set_option maxHeartbeats 2000000 in
theorem eqTexts_same (f : List ByteArray) (a a' : Option Addr) (c c' : Nat) (w : World) (hl : f.length ≤ 1000000000) (hT : XA w 0 f a) (hT' : XA w 0 f a') :
    Calls Tryz.prog 61 #[.slice a f.length c, .slice a' f.length c'] w fun e w' => e = .returned (.bool true) ∧ Ex w w' := by
  have T : Hid (∀ w', Ex w w' → XA w' 0 f a) := fun _ h => XA_below hT h
  have T' : Hid (∀ w', Ex w w' → XA w' 0 f a') := fun _ h => XA_below hT' h
  clear hT hT'
  go_enter Tryz.func61, Tryz.ntmps61
  go_wp2_with fail
  go_loopw [5] (fun i wr => ∃ k : Nat, k ≤ f.length ∧ i = .int .i64 k ∧ Ex w wr) (fun i _ => f.length - (intOf i).toNat)
  case atStart => exact ⟨0, Nat.zero_le _, rfl, Ex.refl _⟩
  case round =>
    obtain ⟨j, hk, rfl, hx⟩ := hrel
    have X : Hid (Ex w wr) := hx
    clear hx
    by_cases hlt : j < f.length
    · obtain ⟨b, o, rfl, _, _, hkk⟩ := XA_at (T.out wr X.out) (by omega)
      obtain ⟨b', o', rfl, _, _, hkk'⟩ := XA_at (T'.out wr X.out) (by omega)
      have e0 := hkk j hlt
      have g0 := hkk' j hlt
      obtain ⟨t, ht⟩ : ∃ t, f.getD j ⟨#[]⟩ = t := ⟨_, rfl⟩
      rw [ht] at e0 g0
      clear hkk hkk' ht
      have KS : Hid (∀ w', Ex wr w' → (Ex wr w' ∧ w'.cell? ⟨b, o + j, none⟩ = some (.string t) ∧ w'.cell? ⟨b', o' + j, none⟩ = some (.string t))) := fun w' h => ⟨h, h.at e0, h.at g0⟩
      have i0 : (0 : Int) ≤ (j : Int) := by omega
      have i1 : (j : Int) < (f.length : Int) := by omega
      go_wp2_with fail
      clear e0 g0
      refine wp_region_held_drew (S := fun w' => Ex wr w' ∧ w'.cell? ⟨b, o + j, none⟩ = some (.string t) ∧ w'.cell? ⟨b', o' + j, none⟩ = some (.string t)) (by kernel_rfl) (KS.out _ (Ex.refl _).drew) (fun hHeld => ?_)
      refine wpAnyH_take (i := 0) (v := ?_) rfl (by kernel_rfl) (by kernel_rfl) (by kernel_rfl) (fun _ _ _ h => h) (Or.inl ⟨by rfl, ?_⟩) (by assumption) ?_
      rotate_left
      · (intro w' hSw; (try dsimp only at hSw); go_simp) <;> with_reducible rfl
      change wpAnyH Tryz.prog _ _ _ _ _ _ (Act.put _ (some 17) _) _
      (try simp only [Act.put, List.setIfInBounds_toArray, List.set_cons_zero, List.set_cons_succ])
      refine wpAnyH_take (i := 1) (v := ?_) rfl (by kernel_rfl) (by kernel_rfl) (by kernel_rfl) (fun _ _ _ h => h) (Or.inl ⟨by rfl, ?_⟩) (by assumption) ?_
      rotate_left
      · (intro w' hSw; (try dsimp only at hSw); go_simp) <;> with_reducible rfl
      change wpAnyH Tryz.prog _ _ _ _ _ _ (Act.put _ (some 18) _) _
      (try simp only [Act.put, List.setIfInBounds_toArray, List.set_cons_zero, List.set_cons_succ])
      refine wpAnyH_take (i := 2) (v := ?_) rfl (by kernel_rfl) (by kernel_rfl) (by kernel_rfl) (fun _ _ _ h => h) (Or.inl ⟨by rfl, ?_⟩) (by assumption) ?_
      rotate_left
      · (intro w' hSw; (try dsimp only at hSw); go_simp) <;> with_reducible rfl
      change wpAnyH Tryz.prog _ _ _ _ _ _ (Act.put _ (some 19) _) _
      (try simp only [Act.put, List.setIfInBounds_toArray, List.set_cons_zero, List.set_cons_succ])
      refine wpAnyH_take (i := 3) (v := ?_) rfl (by kernel_rfl) (by kernel_rfl) (by kernel_rfl) (fun _ _ _ h => h) (Or.inl ⟨by rfl, ?_⟩) (by assumption) ?_
      rotate_left
      · (intro w' hSw; (try dsimp only at hSw); go_simp) <;> with_reducible rfl
      change wpAnyH Tryz.prog _ _ _ _ _ _ (Act.put _ (some 20) _) _
      (try simp only [Act.put, List.setIfInBounds_toArray, List.set_cons_zero, List.set_cons_succ])
      refine wpAnyH_take (i := 4) (v := ?_) rfl (by kernel_rfl) (by kernel_rfl) (by kernel_rfl) (fun _ _ _ h => h) (Or.inl ⟨by rfl, ?_⟩) (by assumption) ?_
      rotate_left
      · (intro w' hSw; (try dsimp only at hSw); go_simp) <;> with_reducible rfl
      change wpAnyH Tryz.prog _ _ _ _ _ _ (Act.put _ (some 21) _) _
      (try simp only [Act.put, List.setIfInBounds_toArray, List.set_cons_zero, List.set_cons_succ])
      refine wpAnyH_take (i := 5) (v := ?_) rfl (by kernel_rfl) (by kernel_rfl) (by kernel_rfl) (fun _ _ _ h => h) (Or.inl ⟨by rfl, ?_⟩) (by assumption) ?_
      rotate_left
      · (intro w' hSw; (try dsimp only at hSw); go_simp) <;> with_reducible rfl
      change wpAnyH Tryz.prog _ _ _ _ _ _ (Act.put _ (some 22) _) _
      (try simp only [Act.put, List.setIfInBounds_toArray, List.set_cons_zero, List.set_cons_succ])
      refine wpAnyH_take (i := 6) (v := ?_) rfl (by kernel_rfl) (by kernel_rfl) (by kernel_rfl) (fun _ _ _ h => h) (Or.inl ⟨by rfl, ?_⟩) (by assumption) ?_
      rotate_left
      · (intro w' hSw; (try dsimp only at hSw); go_simp) <;> with_reducible rfl
      change wpAnyH Tryz.prog _ _ _ _ _ _ (Act.put _ (some 23) _) _
      (try simp only [Act.put, List.setIfInBounds_toArray, List.set_cons_zero, List.set_cons_succ])
      refine wpAnyH_take (i := 7) (v := ?_) rfl (by kernel_rfl) (by kernel_rfl) (by kernel_rfl) (fun _ _ _ h => h) (Or.inl ⟨by rfl, ?_⟩) (by assumption) ?_
      rotate_left
      · (intro w' hSw; (try dsimp only at hSw); go_simp) <;> with_reducible rfl
      change wpAnyH Tryz.prog _ _ _ _ _ _ (Act.put _ (some 24) _) _
      (try simp only [Act.put, List.setIfInBounds_toArray, List.set_cons_zero, List.set_cons_succ])
      refine wpAnyH_take (i := 8) (v := ?_) rfl (by kernel_rfl) (by kernel_rfl) (by kernel_rfl) (fun _ _ _ h => h) (Or.inl ⟨by rfl, ?_⟩) (by assumption) ?_
      rotate_left
      · (intro w' hSw; (try dsimp only at hSw); go_simp) <;> with_reducible rfl
      change wpAnyH Tryz.prog _ _ _ _ _ _ (Act.put _ (some 25) _) _
      (try simp only [Act.put, List.setIfInBounds_toArray, List.set_cons_zero, List.set_cons_succ])
      refine wpAnyH_done (by kernel_rfl) ?_ _
      go_wp2_with fail
      go_roundw
      case rel => exact ⟨j + 1, by omega, by go_num, X.out.trans hHeld.1⟩
      case measure => simp [intOf]; omega
    · go_wp2_with fail
      go_ret
      exact ⟨rfl, X.out⟩

set_option maxRecDepth 100000 in
set_option maxHeartbeats 4000000 in
theorem eqTermS_by (f : TM) (a a' : Option Addr) (c c' : Nat) (w : World) (hl : tlen f ≤ 1000000000) (hT : MA w 0 f a) (hT' : MA w 0 f a')
    (hK : ∀ j, j < tlen f → ∀ (p1 : Option Addr) (q1 : Nat) (a1 : Option Addr) (c1 : Nat) (p2 : Option Addr) (q2 : Nat) (a2 : Option Addr) (c2 : Nat) (w' : World), Ex w w' → PA w' 0 (tpath f j) p1 → MA w' 0 (tkid f j) a1 → PA w' 0 (tpath f j) p2 → MA w' 0 (tkid f j) a2 → Calls Tryz.prog 106 #[.agg #[.int .i64 (tkind f j), .int .i64 (tnum f j), .string (tname f j), .slice p1 (tpath f j).length q1, .slice a1 (tlen (tkid f j)) c1], .agg #[.int .i64 (tkind f j), .int .i64 (tnum f j), .string (tname f j), .slice p2 (tpath f j).length q2, .slice a2 (tlen (tkid f j)) c2]] w' fun e w'' => e = .returned (.bool true) ∧ Ex w' w'') :
    Calls Tryz.prog 82 #[.slice a (tlen f) c, .slice a' (tlen f) c'] w fun e w' => e = .returned (.bool true) ∧ Ex w w' := by
  have T : Hid (∀ w', Ex w w' → MA w' 0 f a) := fun _ h => MA_below hT h
  have T' : Hid (∀ w', Ex w w' → MA w' 0 f a') := fun _ h => MA_below hT' h
  have I : Hid _ := hK
  clear hT hT' hK
  go_enter Tryz.func82, Tryz.ntmps82
  go_wp2_with fail
  go_loopw [5] (fun i wr => ∃ k : Nat, k ≤ tlen f ∧ i = .int .i64 k ∧ Ex w wr) (fun i _ => tlen f - (intOf i).toNat)
  case atStart => exact ⟨0, Nat.zero_le _, rfl, Ex.refl _⟩
  case round =>
    obtain ⟨j, hk, rfl, hx⟩ := hrel
    have X : Hid (Ex w wr) := hx
    clear hx
    by_cases hlt : j < tlen f
    · obtain ⟨b, o, rfl, _, hbs, hkk⟩ := MA_at (T.out wr X.out) (by omega)
      obtain ⟨e0, e1, e2, ⟨p1, q1, e3, y1⟩, a1, c1, e4, y2⟩ := hkk j hlt
      obtain ⟨b', o', rfl, _, hbs', hkk'⟩ := MA_at (T'.out wr X.out) (by omega)
      obtain ⟨g0, g1, g2, ⟨p2, q2, g3, z1⟩, a2, c2, g4, z2⟩ := hkk' j hlt
      have HI : Hid (∀ w', Ex wr w' → _) := fun w' (h : Ex wr w') => I.out j hlt p1 q1 a1 c1 p2 q2 a2 c2 w' (X.out.trans h) (PA_below (PS_pa.1 y1.1) h) (MA_below y2 h) (PA_below (PS_pa.1 z1.1) h) (MA_below z2 h)
      clear hkk hkk' y1 y2 z1 z2
      have KS : Hid (∀ w', Ex wr w' → (Ex wr w' ∧ w'.cell? ⟨b, o + j * 5, none⟩ = some (.int .i64 (tkind f j)) ∧ w'.cell? ⟨b, o + j * 5 + 1, none⟩ = some (.int .i64 (tnum f j)) ∧ w'.cell? ⟨b, o + j * 5 + 2, none⟩ = some (.string (tname f j)) ∧ w'.cell? ⟨b, o + j * 5 + 3, none⟩ = some (.slice p1 (tpath f j).length q1) ∧ w'.cell? ⟨b, o + j * 5 + 4, none⟩ = some (.slice a1 (tlen (tkid f j)) c1) ∧ w'.cell? ⟨b', o' + j * 5, none⟩ = some (.int .i64 (tkind f j)) ∧ w'.cell? ⟨b', o' + j * 5 + 1, none⟩ = some (.int .i64 (tnum f j)) ∧ w'.cell? ⟨b', o' + j * 5 + 2, none⟩ = some (.string (tname f j)) ∧ w'.cell? ⟨b', o' + j * 5 + 3, none⟩ = some (.slice p2 (tpath f j).length q2) ∧ w'.cell? ⟨b', o' + j * 5 + 4, none⟩ = some (.slice a2 (tlen (tkid f j)) c2))) := fun w' h => ⟨h, h.at e0, h.at e1, h.at e2, h.at e3, h.at e4, h.at g0, h.at g1, h.at g2, h.at g3, h.at g4⟩
      have i0 : (0 : Int) ≤ (j : Int) := by omega
      have i1 : (j : Int) < (tlen f : Int) := by omega
      go_wp2_with fail
      clear e0 g0 e1 g1 e2 g2 e3 g3 e4 g4
      refine wp_region_held_drew (S := fun w' => Ex wr w' ∧ w'.cell? ⟨b, o + j * 5, none⟩ = some (.int .i64 (tkind f j)) ∧ w'.cell? ⟨b, o + j * 5 + 1, none⟩ = some (.int .i64 (tnum f j)) ∧ w'.cell? ⟨b, o + j * 5 + 2, none⟩ = some (.string (tname f j)) ∧ w'.cell? ⟨b, o + j * 5 + 3, none⟩ = some (.slice p1 (tpath f j).length q1) ∧ w'.cell? ⟨b, o + j * 5 + 4, none⟩ = some (.slice a1 (tlen (tkid f j)) c1) ∧ w'.cell? ⟨b', o' + j * 5, none⟩ = some (.int .i64 (tkind f j)) ∧ w'.cell? ⟨b', o' + j * 5 + 1, none⟩ = some (.int .i64 (tnum f j)) ∧ w'.cell? ⟨b', o' + j * 5 + 2, none⟩ = some (.string (tname f j)) ∧ w'.cell? ⟨b', o' + j * 5 + 3, none⟩ = some (.slice p2 (tpath f j).length q2) ∧ w'.cell? ⟨b', o' + j * 5 + 4, none⟩ = some (.slice a2 (tlen (tkid f j)) c2)) (by kernel_rfl) (KS.out _ (Ex.refl _).drew) (fun hHeld => ?_)
      refine wpAnyH_take (i := 0) (v := ?_) rfl (by kernel_rfl) (by kernel_rfl) (by kernel_rfl) (fun _ _ _ h => h) (Or.inl ⟨by rfl, ?_⟩) (by assumption) ?_
      rotate_left
      · (intro w' hSw; (try dsimp only at hSw); go_simp) <;> with_reducible rfl
      change wpAnyH Tryz.prog _ _ _ _ _ _ (Act.put _ (some 17) _) _
      (try simp only [Act.put, List.setIfInBounds_toArray, List.set_cons_zero, List.set_cons_succ])
      refine wpAnyH_take (i := 1) (v := ?_) rfl (by kernel_rfl) (by kernel_rfl) (by kernel_rfl) (fun _ _ _ h => h) (Or.inl ⟨by rfl, ?_⟩) (by assumption) ?_
      rotate_left
      · (intro w' hSw; (try dsimp only at hSw); go_simp) <;> with_reducible rfl
      change wpAnyH Tryz.prog _ _ _ _ _ _ (Act.put _ (some 18) _) _
      (try simp only [Act.put, List.setIfInBounds_toArray, List.set_cons_zero, List.set_cons_succ])
      refine wpAnyH_take (i := 2) (v := ?_) rfl (by kernel_rfl) (by kernel_rfl) (by kernel_rfl) (fun _ _ _ h => h) (Or.inl ⟨by rfl, ?_⟩) (by assumption) ?_
      rotate_left
      · (intro w' hSw; (try dsimp only at hSw); go_simp) <;> with_reducible rfl
      change wpAnyH Tryz.prog _ _ _ _ _ _ (Act.put _ (some 19) _) _
      (try simp only [Act.put, List.setIfInBounds_toArray, List.set_cons_zero, List.set_cons_succ])
      refine wpAnyH_take (i := 3) (v := ?_) rfl (by kernel_rfl) (by kernel_rfl) (by kernel_rfl) (fun _ _ _ h => h) (Or.inl ⟨by rfl, ?_⟩) (by assumption) ?_
      rotate_left
      · (intro w' hSw; (try dsimp only at hSw); go_simp) <;> with_reducible rfl
      change wpAnyH Tryz.prog _ _ _ _ _ _ (Act.put _ (some 20) _) _
      (try simp only [Act.put, List.setIfInBounds_toArray, List.set_cons_zero, List.set_cons_succ])
      refine wpAnyH_take (i := 4) (v := ?_) rfl (by kernel_rfl) (by kernel_rfl) (by kernel_rfl) (fun _ _ _ h => h) (Or.inl ⟨by rfl, ?_⟩) (by assumption) ?_
      rotate_left
      · (intro w' hSw; (try dsimp only at hSw); go_simp) <;> with_reducible rfl
      change wpAnyH Tryz.prog _ _ _ _ _ _ (Act.put _ (some 21) _) _
      (try simp only [Act.put, List.setIfInBounds_toArray, List.set_cons_zero, List.set_cons_succ])
      refine wpAnyH_take (i := 5) (v := ?_) rfl (by kernel_rfl) (by kernel_rfl) (by kernel_rfl) (fun _ _ _ h => h) (Or.inl ⟨by rfl, ?_⟩) (by assumption) ?_
      rotate_left
      · (intro w' hSw; (try dsimp only at hSw); go_simp) <;> with_reducible rfl
      change wpAnyH Tryz.prog _ _ _ _ _ _ (Act.put _ (some 22) _) _
      (try simp only [Act.put, List.setIfInBounds_toArray, List.set_cons_zero, List.set_cons_succ])
      refine wpAnyH_take (i := 6) (v := ?_) rfl (by kernel_rfl) (by kernel_rfl) (by kernel_rfl) (fun _ _ _ h => h) (Or.inl ⟨by rfl, ?_⟩) (by assumption) ?_
      rotate_left
      · (intro w' hSw; (try dsimp only at hSw); go_simp) <;> with_reducible rfl
      change wpAnyH Tryz.prog _ _ _ _ _ _ (Act.put _ (some 23) _) _
      (try simp only [Act.put, List.setIfInBounds_toArray, List.set_cons_zero, List.set_cons_succ])
      refine wpAnyH_take (i := 7) (v := ?_) rfl (by kernel_rfl) (by kernel_rfl) (by kernel_rfl) (fun _ _ _ h => h) (Or.inl ⟨by rfl, ?_⟩) (by assumption) ?_
      rotate_left
      · (intro w' hSw; (try dsimp only at hSw); go_simp) <;> with_reducible rfl
      change wpAnyH Tryz.prog _ _ _ _ _ _ (Act.put _ (some 24) _) _
      (try simp only [Act.put, List.setIfInBounds_toArray, List.set_cons_zero, List.set_cons_succ])
      refine wpAnyH_ready (rs := [8]) (by kernel_rfl) (by simp) ?_
      refine AllReadyH.cons (i := 8) rfl (fun K hK => ?_) AllReadyH.nil
      go_simp
      refine (HI.out _ hHeld.1).mono ?_
      rintro e w1 ⟨rfl, hb1⟩
      have hx1 := Ex.trans (And.left hHeld) hb1
      clear hHeld
      go_wp2_with fail
      refine hK.out _ _ ?_ (fun hHeld => ?_)
      · exact KS.out _ hx1
      clear hK
      (try simp only [Act.put, List.setIfInBounds_toArray, List.set_cons_zero, List.set_cons_succ])
      refine wpAnyH_take (i := 9) (v := ?_) rfl (by kernel_rfl) (by kernel_rfl) (by kernel_rfl) (fun _ _ _ h => h) (Or.inl ⟨by rfl, ?_⟩) (by assumption) ?_
      rotate_left
      · (intro w' hSw; (try dsimp only at hSw); go_simp) <;> with_reducible rfl
      change wpAnyH Tryz.prog _ _ _ _ _ _ (Act.put _ (some 26) _) _
      (try simp only [Act.put, List.setIfInBounds_toArray, List.set_cons_zero, List.set_cons_succ])
      refine wpAnyH_done (by kernel_rfl) ?_ _
      go_wp2_with fail
      go_roundw
      case rel => exact ⟨j + 1, by omega, by go_num, X.out.trans hHeld.1⟩
      case measure => simp [intOf]; omega
    · go_wp2_with fail
      go_ret
      exact ⟨rfl, X.out⟩

set_option maxRecDepth 100000 in
set_option maxHeartbeats 2000000 in
theorem eqTerm_by (k n : Int) (s : ByteArray) (p : List Int) (p1 : Option Addr) (q1 : Nat) (p2 : Option Addr) (q2 : Nat) (f : TM) (a1 : Option Addr) (c1 : Nat) (a2 : Option Addr) (c2 : Nat) (w : World) (hp : p.length ≤ 1000000000) (hP1 : PA w 0 p p1) (hP2 : PA w 0 p p2) (hK : ∀ w', Ex w w' → Calls Tryz.prog 82 #[.slice a1 (tlen f) c1, .slice a2 (tlen f) c2] w' fun e w'' => e = .returned (.bool true) ∧ Ex w' w'') :
    Calls Tryz.prog 106 #[.agg #[.int .i64 k, .int .i64 n, .string s, .slice p1 p.length q1, .slice a1 (tlen f) c1], .agg #[.int .i64 k, .int .i64 n, .string s, .slice p2 p.length q2, .slice a2 (tlen f) c2]] w fun e w' => e = .returned (.bool true) ∧ Ex w w' := by
  have H_hP1 : Hid _ := hP1
  clear hP1
  have H_hP2 : Hid _ := hP2
  clear hP2
  have H_hK : Hid _ := hK
  clear hK
  have N : Hid (Ex w ((w.alloc (.cells #[.int .i64 k, .int .i64 n, .string s, .slice p1 p.length q1, .slice a1 (tlen f) c1] 121)).alloc (.cells #[.int .i64 k, .int .i64 n, .string s, .slice p2 p.length q2, .slice a2 (tlen f) c2] 121))) := (Ex.new _ _).alloc _
  have C : Hid (∀ w', Ex ((w.alloc (.cells #[.int .i64 k, .int .i64 n, .string s, .slice p1 p.length q1, .slice a1 (tlen f) c1] 121)).alloc (.cells #[.int .i64 k, .int .i64 n, .string s, .slice p2 p.length q2, .slice a2 (tlen f) c2] 121)) w' → w'.cell? ⟨w.heap.size, 0, none⟩ = some (.int .i64 k) ∧ w'.cell? ⟨w.heap.size, 1, none⟩ = some (.int .i64 n) ∧ w'.cell? ⟨w.heap.size, 2, none⟩ = some (.string s) ∧ w'.cell? ⟨w.heap.size, 3, none⟩ = some (.slice p1 p.length q1) ∧ w'.cell? ⟨w.heap.size, 4, none⟩ = some (.slice a1 (tlen f) c1) ∧ w'.cell? ⟨w.heap.size + 1, 0, none⟩ = some (.int .i64 k) ∧ w'.cell? ⟨w.heap.size + 1, 1, none⟩ = some (.int .i64 n) ∧ w'.cell? ⟨w.heap.size + 1, 2, none⟩ = some (.string s) ∧ w'.cell? ⟨w.heap.size + 1, 3, none⟩ = some (.slice p2 p.length q2) ∧ w'.cell? ⟨w.heap.size + 1, 4, none⟩ = some (.slice a2 (tlen f) c2)) := fun w' h => ⟨h.at (by simp), h.at (by simp), h.at (by simp), h.at (by simp), h.at (by simp), h.at (by simp), h.at (by simp), h.at (by simp), h.at (by simp), h.at (by simp)⟩
  go_enter Tryz.func106, Tryz.ntmps106
  go_wp2_with fail
  refine (eqIntS_same p p1 p2 q1 q2 _ hp (PA_below H_hP1.out N.out) (PA_below H_hP2.out N.out)).mono ?_
  rintro e w1 ⟨rfl, hb1⟩
  have X1 : Hid (Ex ((w.alloc (.cells #[.int .i64 k, .int .i64 n, .string s, .slice p1 p.length q1, .slice a1 (tlen f) c1] 121)).alloc (.cells #[.int .i64 k, .int .i64 n, .string s, .slice p2 p.length q2, .slice a2 (tlen f) c2] 121)) w1) := hb1
  clear hb1
  obtain ⟨cA0, cA1, cA2, cA3, cA4, cB0, cB1, cB2, cB3, cB4⟩ := C.out w1 X1.out
  go_wp2_with fail
  refine (H_hK.out _ (N.out.trans X1.out)).mono ?_
  rintro e w2 ⟨rfl, hb2⟩
  have X2 : Hid (Ex ((w.alloc (.cells #[.int .i64 k, .int .i64 n, .string s, .slice p1 p.length q1, .slice a1 (tlen f) c1] 121)).alloc (.cells #[.int .i64 k, .int .i64 n, .string s, .slice p2 p.length q2, .slice a2 (tlen f) c2] 121)) w2) := X1.out.trans hb2
  clear hb2 cA0 cA1 cA2 cA3 cA4 cB0 cB1 cB2 cB3 cB4
  obtain ⟨cA0, cA1, cA2, cA3, cA4, cB0, cB1, cB2, cB3, cB4⟩ := C.out w2 X2.out
  go_wp2_with fail
  go_ret
  exact ⟨rfl, N.out.trans X2.out⟩

theorem eqTermS_all : ∀ (d : Nat) (f : TM) (a a' : Option Addr) (c c' : Nat) (w : World), tdep f < d → tlen f ≤ 1000000000 → TSm f → MA w 0 f a → MA w 0 f a' →
    Calls Tryz.prog 82 #[.slice a (tlen f) c, .slice a' (tlen f) c'] w fun e w' => e = .returned (.bool true) ∧ Ex w w' := by
  intro d
  induction d with
  | zero => intro f a a' c c' w hd; omega
  | succ d ih =>
    intro f a a' c c' w hd hl hm hT hT'
    refine eqTermS_by f a a' c c' w hl hT hT' fun j hj p1 q1 a1 c1 p2 q2 a2 c2 w' hx y1 y2 z1 z2 => ?_
    obtain ⟨g1, g2, g3⟩ := TSm_kid hm j hj
    have hdj := tdep_kid f j hj
    exact eqTerm_by _ _ _ _ p1 q1 p2 q2 _ a1 c1 a2 c2 w' g1 y1 z1 (fun w2 hx2 => ih _ a1 a2 c1 c2 w2 (by omega) g2 g3 (MA_below y2 hx2) (MA_below z2 hx2))

theorem eqTermS_same (f : TM) (a a' : Option Addr) (c c' : Nat) (w : World) (hl : tlen f ≤ 1000000000) (hm : TSm f) (hT : MA w 0 f a) (hT' : MA w 0 f a') :
    Calls Tryz.prog 82 #[.slice a (tlen f) c, .slice a' (tlen f) c'] w fun e w' => e = .returned (.bool true) ∧ Ex w w' := eqTermS_all (tdep f + 1) f a a' c c' w (by omega) hl hm hT hT'

end Go.Proofs.YtldbmlojgakieaaGreatDoor
