/- Walks: the exact law on types of functions. A type that comes in, opened. What an argument that is a list of numbers is. A place that comes in, opened. Functions that come in, opened. Texts, types and a term that come in, opened. A text that comes in, opened. -/
import Derived.Test.YtgpdnoghlommeaaGreatDoorSK5
import Derived.Test.YtgpdnoghlommeaaGreatDoorGEQ2
import Derived.Test.YtgpdnoghlommeaaGreatDoorMK3
import Derived.Test.YtgpdnoghlommeaaGreatDoorTU2
import Derived.Test.YtgpdnoghlommeaaGreatDoorGTO0
import Derived.Test.YtgpdnoghlommeaaGreatDoorGE1
import Derived.Deep.Slices
import Derived.Test.YtgpdnoghlommeaaGreatDoorGD3
import Derived.WalkKit
import Derived.ProofKit
import Derived.OpenShut
import Derived.Test.YtgpdnoghlommeaaGreatDoorGTO1
import Derived.SliceStrings
namespace Go.Proofs.YtgpdnoghlommeaaGreatDoor

open Go.RowKit Go.Deep

attribute [local go_sem ↓] Go.wp_at_zero Go.wp_at_succ

theorem PSm_all {l : List PM} (h : PSkTo l l.length) : ∀ i, i < l.length → PSm (l.getD i pm0) := fun i hi => by
  obtain ⟨h1, ⟨h2, h3⟩, h4, h5⟩ := h i hi
  exact ⟨by omega, by omega, h3, by omega⟩
theorem fitL_sm {r : F} (h : fitL r) : Sm r := Sm_of fun j hj => by
  have h1 := fits_sm _ _ (h j hj)
  exact ⟨by omega, h1.2⟩

set_option maxRecDepth 100000 in
set_option maxHeartbeats 4000000 in
theorem lawExactKindOf (ea eb : Addr) (l : List PM) (a : Option Addr) (c : Nat) (s : ByteArray) (v : F) (va : Option Addr) (vc : Nat) (w : World) (hlen : l.length ≤ 9223372036854775807) (hlm : ∀ j, j < l.length → PLm (l.getD j pm0)) (hTwo : Two ea eb w) (hQ : QA w 0 l a) (hvl : len v ≤ 9223372036854775807) (hvm : Lm v) (hV : TA w 0 v va) :
    Calls Tryz.prog 3 #[.slice a l.length c, .string s, .slice va (len v) vc] w fun e w' => e = .returned (.bool true) ∧ Ex w w' := by
  have T : Hid (∀ w', Ex w w' → Two ea eb w') := fun w' h => hTwo.ex h
  have Q : Hid (∀ w', Ex w w' → QA w' 0 l a) := fun _ h => QA_below hQ h
  have V : Hid (∀ w', Ex w w' → TA w' 0 v va) := fun _ h => TA_below hV h
  have LM : Hid _ := hlm
  have VM : Hid (len v ≤ 9223372036854775807 ∧ Lm v) := ⟨hvl, hvm⟩
  have SZ : Hid _ := szPureS_any l a c 1048576 w hlen hlm (by omega) (by omega) hQ
  clear hQ hlm hTwo hV hvl hvm
  by_cases hbig : 1048576 < s.size
  · have d1 : decide ((1048576 : Int) < (s.size : Int)) = true := by simp; omega
    go_enter Tryz.func3, Tryz.ntmps3
    go_wp2_with fail
    go_ret
    exact ⟨rfl, Ex.refl _⟩
  have d1 : decide ((1048576 : Int) < (s.size : Int)) = false := by simp; omega
  go_enter Tryz.func3, Tryz.ntmps3
  go_wp2_with fail
  refine Calls.mono SZ.out ?_
  rintro e w1 ⟨x, rfl, hx0, hx1, hx2, hb1⟩
  have X1 : Hid (Ex w w1) := hb1
  clear hb1 SZ
  by_cases hx : x < 0
  · go_wp2_with fail
    go_ret
    exact ⟨rfl, X1.out⟩
  obtain ⟨⟨h1, hsk⟩, hqw⟩ := hx2 (by omega)
  have SZV : Hid _ := (szType_both (dep v + 1)).1 v va vc 0 x w1 (by omega) VM.out.1 VM.out.2 (by omega) (by omega) (V.out _ X1.out)
  go_wp2_with fail
  refine Calls.mono SZV.out ?_
  rintro e w2 ⟨y, rfl, hy0, hy1, hy2, hb2⟩
  have X2 : Hid (Ex w w2) := X1.out.trans hb2
  clear hb2 SZV hx2
  by_cases hy : y < 0
  · go_wp2_with fail
    go_ret
    exact ⟨rfl, X2.out⟩
  obtain ⟨g1, g2⟩ := hy2 (by omega)
  have SK : Hid (PSkTo l l.length) := hsk
  have QW : Hid (qW l ≤ 1048576) := by show _ ≤ _; omega
  have L6 : Hid (l.length ≤ 1048576 ∧ len v ≤ 1048576 ∧ Sm v) := ⟨h1, g1, g2⟩
  have TO : Hid (∀ w', Ex w w' → Calls Tryz.prog 8 #[.slice a l.length c] w' fun e w'' => ∃ a', e = .returned (.slice a' l.length l.length) ∧ QU w'' w'.heap.size l a' ∧ Ex w' w'') := fun w' h => utoPureS_any l a c w' (by omega) SK.out (Q.out w' h)
  have TV : Hid (∀ w', Ex w w' → Calls Tryz.prog 9 #[.slice va (len v) vc] w' fun e w'' => ∃ a' c', e = .returned (.slice a' (len v) c') ∧ TA w'' w'.heap.size v a' ∧ Ex w' w'') := fun w' h => (toType_both (dep v + 1)).1 v va vc 0 w' (by omega) (by omega) L6.out.2.2 (V.out w' h)
  obtain ⟨r, hr⟩ : ∃ r, r = (runK l s (nf v)).getD .nil := ⟨_, rfl⟩
  obtain ⟨cc, hcc⟩ : ∃ cc, cc = (runK l s (nf v)).isSome := ⟨_, rfl⟩
  have RS : Hid (len r ≤ 60 ∧ Sm r) := by
    cases hR : runK l s (nf v) with
    | none => rw [hR] at hr; subst hr; exact ⟨by show 0 ≤ 60; omega, trivial⟩
    | some r' =>
      rw [hR] at hr
      have e : r = r' := hr
      subst e
      obtain ⟨t1, t2⟩ := runK_fit hR
      exact ⟨t2, fitL_sm t1⟩
  have SP : Hid (∀ w' a' a'' c'', QA w' 0 l a' → TA w' 0 v a'' → Calls Tryz.prog 7 #[.slice a' l.length l.length, .string s, .slice a'' (len v) c''] w' fun e w'' => ∃ a3 c3, e = .returned (.tuple #[.slice a3 (len r) c3, .bool cc]) ∧ SA w'' (fun b => w'.heap.size ≤ b) r a3 ∧ Ex w' w'') := fun w' a' a'' c'' h h' => by
    have h0 := sKindOf_any l.length l rfl (by omega) (PSm_all SK.out) (fun i hi => ⟨(LM.out i hi).2.2.1, (SK.out i hi).2.1.2, (LM.out i hi).2.2.2.2.1, (SK.out i hi).2.2.2, (LM.out i hi).2.2.2.2.2.2⟩) a' l.length s (nf v) a'' c'' w' (Nat.le_refl _) (by omega) h (by rw [len_nf]; omega) (SA_nf (dep v + 1) v a'' (by omega) (SA_mono h' fun _ _ _ => trivial))
    unfold SkQ at h0
    rw [← hr, ← hcc, len_nf] at h0
    exact h0
  have IP : Hid (∀ w' a' a'' c'', Ex w w' → QA w' 0 l a' → TA w' 0 v a'' → Calls Tryz.prog 10 #[.slice a' l.length l.length, .string s, .slice a'' (len v) c''] w' fun e w'' => ∃ a3 c3, e = .returned (.tuple #[.slice a3 (len r) c3, .bool cc]) ∧ SA w'' (fun b => w'.heap.size ≤ b) r a3 ∧ Ex w' w'') := fun w' a' a'' c'' hx h h' => by
    have h0 := iKindOf_any ea eb l a' l.length s (nf v) a'' c'' w' (T.out w' hx) (by omega) (Nat.le_refl _) SK.out LM.out h (by rw [len_nf]; omega) (nf_nf v) (SA_nf (dep v + 1) v a'' (by omega) h')
    unfold KofP at h0
    rw [← hr, ← hcc, len_nf] at h0
    exact h0
  have EQ : Hid (∀ w' a1 a2, QA w' 0 l a1 → QA w' 0 l a2 → Calls Tryz.prog 12 #[.slice a1 l.length l.length, .slice a2 l.length l.length] w' fun e w'' => e = .returned (.bool true) ∧ Ex w' w'') := fun w' a1 a2 h1 h2 => eqPureS_same l a1 a2 l.length l.length w' (by omega) SK.out h1 h2
  have EV : Hid (∀ w' a1 c1 a2 c2, TA w' 0 r a1 → TA w' 0 r a2 → Calls Tryz.prog 11 #[.slice a1 (len r) c1, .slice a2 (len r) c2] w' fun e w'' => e = .returned (.bool true) ∧ Ex w' w'') := fun w' a1 c1 a2 c2 h h' => by
    have := (eqType_both (dep r + 1)).1 r r a1 a2 c1 c2 0 0 w' (by omega) (by have := RS.out.1; omega) RS.out.2 h h'
    rw [eqT_refl] at this; exact this
  have EW : Hid (∀ w' a1 c1 a2 c2, TA w' 0 v a1 → TA w' 0 v a2 → Calls Tryz.prog 11 #[.slice a1 (len v) c1, .slice a2 (len v) c2] w' fun e w'' => e = .returned (.bool true) ∧ Ex w' w'') := fun w' a1 c1 a2 c2 h h' => by
    have := (eqType_both (dep v + 1)).1 v v a1 a2 c1 c2 0 0 w' (by omega) (by omega) L6.out.2.2 h h'
    rw [eqT_refl] at this; exact this
  have hnc : (cc != cc) = false := by simp
  clear hy2 hlen hsk hqw h1 g1 g2 hr hcc
  go_wp2_with fail
  refine (TO.out _ X2.out).mono ?_
  rintro e w3 ⟨a3, rfl, hq3, hb3⟩
  have X3 : Hid (Ex w w3) := X2.out.trans hb3
  have Q3 : Hid (∀ w', Ex w3 w' → QA w' 0 l a3) := fun w' h => QA_below (QA_lo hq3.a (Nat.zero_le _)) h
  clear hq3 hb3
  go_wp2_with fail
  refine (TV.out _ X3.out).mono ?_
  rintro e w4 ⟨a4, c4, rfl, hv4, hb4⟩
  have X4 : Hid (Ex w w4) := X3.out.trans hb4
  have Q4 : Hid (QA w4 0 l a3) := Q3.out w4 hb4
  have V4 : Hid (TA w4 0 v a4) := SA_mono hv4 fun _ _ _ => Nat.zero_le _
  clear hv4 hb4
  go_wp2_with fail
  refine (SP.out _ _ _ _ Q4.out V4.out).mono ?_
  rintro e w5 ⟨a5, c5, rfl, hv5, hb5⟩
  have X5 : Hid (Ex w w5) := X4.out.trans hb5
  have V5 : Hid (∀ w', Ex w5 w' → TA w' 0 r a5) := fun w' h => SA_mono (SA_ex hv5 h) fun _ _ _ => Nat.zero_le _
  clear hv5 hb5
  go_wp2_with fail
  refine (TO.out _ X5.out).mono ?_
  rintro e w6 ⟨a6, rfl, hq6, hb6⟩
  have X6 : Hid (Ex w w6) := X5.out.trans hb6
  have Q6 : Hid (∀ w', Ex w6 w' → QS w' (fun b => w5.heap.size ≤ b ∧ b < w6.heap.size ∧ Unf w' b) l a6) := fun w' h => QS_mono (QS_ks (QS_mono (S' := fun b => w5.heap.size ≤ b ∧ b < w6.heap.size ∧ Unf w6 b) hq6 fun b hl hb => ⟨hb.1, hl, hb.2⟩) fun k _ hk => h.block k hk) fun b _ hb => ⟨hb.1, hb.2.1, hb.2.2.ex h⟩
  have Y6 : Hid (Ex w5 w6) := hb6
  clear hq6 hb6
  go_wp2_with fail
  refine (TV.out _ X6.out).mono ?_
  rintro e w7 ⟨a7, c7, rfl, hv7, hb7⟩
  have X7 : Hid (Ex w w7) := X6.out.trans hb7
  have Y7 : Hid (Ex w6 w7) := hb7
  have V7 : Hid (∀ w', Ex w7 w' → SA w' (fun b => w6.heap.size ≤ b ∧ b < w7.heap.size) v a7) := fun w' h => SA_ex (SA_mono (S' := fun b => w6.heap.size ≤ b ∧ b < w7.heap.size) hv7 fun b hb hs => ⟨hs, hb⟩) h
  clear hv7 hb7
  go_wp2_with fail
  refine (IP.out _ _ _ _ X7.out (QS_mono (Q6.out w7 Y7.out) fun _ _ _ => Nat.zero_le _) (SA_mono (V7.out w7 (Ex.refl _)) fun _ _ _ => Nat.zero_le _)).mono ?_
  rintro e w8 ⟨a8, c8, rfl, hv8, hb8⟩
  have X8 : Hid (Ex w w8) := X7.out.trans hb8
  have Y8 : Hid (Ex w7 w8) := hb8
  have V8 : Hid (∀ w', Ex w8 w' → SA w' (fun b => w7.heap.size ≤ b ∧ b < w8.heap.size) r a8) := fun w' h => SA_ex (SA_mono (S' := fun b => w7.heap.size ≤ b ∧ b < w8.heap.size) hv8 fun b hb hs => ⟨hs, hb⟩) h
  have Y58 : Hid (Ex w5 w8) := Y6.out.trans (Y7.out.trans Y8.out)
  clear hv8 hb8
  go_wp2_with fail
  refine (EV.out w8 a8 c8 a5 c5 (SA_mono (V8.out w8 (Ex.refl _)) fun _ _ _ => Nat.zero_le _) (V5.out w8 Y58.out)).mono ?_
  rintro e w9 ⟨rfl, hb9⟩
  have Y9 : Hid (Ex w8 w9) := hb9
  have X9 : Hid (Ex w w9) := X8.out.trans hb9
  clear hb9
  go_wp2_with fail
  refine (TO.out _ X9.out).mono ?_
  rintro e w10 ⟨a10, rfl, hq10, hb10⟩
  have Y10 : Hid (Ex w8 w10) := Y9.out.trans hb10
  have Q10 : Hid (QA w10 0 l a10) := QA_lo hq10.a (Nat.zero_le _)
  clear hq10 hb10
  go_wp2_with fail
  refine (EQ.out w10 a6 a10 (QS_mono (Q6.out w10 (Y7.out.trans (Y8.out.trans Y10.out))) fun _ _ _ => Nat.zero_le _) Q10.out).mono ?_
  rintro e w11 ⟨rfl, hb11⟩
  have Y11 : Hid (Ex w8 w11) := Y10.out.trans hb11
  have X11 : Hid (Ex w w11) := X8.out.trans Y11.out
  clear hb11
  go_wp2_with fail
  refine (TV.out _ X11.out).mono ?_
  rintro e w12 ⟨a12, c12, rfl, hv12, hb12⟩
  have Y12 : Hid (Ex w8 w12) := Y11.out.trans hb12
  have V12 : Hid (TA w12 0 v a12) := SA_mono hv12 fun _ _ _ => Nat.zero_le _
  clear hv12 hb12
  go_wp2_with fail
  refine (EW.out w12 a7 c7 a12 c12 (SA_mono (V7.out w12 (Y8.out.trans Y12.out)) fun _ _ _ => Nat.zero_le _) V12.out).mono ?_
  rintro e w13 ⟨rfl, hb13⟩
  have Y13 : Hid (Ex w8 w13) := Y12.out.trans hb13
  have Y713 : Hid (Ex w7 w13) := Y8.out.trans Y13.out
  have MP : Hid _ := markPureS_u (w0 := w13) (S := fun b => w5.heap.size ≤ b ∧ b < w6.heap.size ∧ Unf w13 b) (fun b hb => hb.2.2) l a6 l.length 1 (Q6.out w13 (Y7.out.trans Y713.out)) (by omega) (by have := QW.out; omega) w13 (Rs.refl _)
  clear hb13
  go_wp2_with fail
  refine Calls.mono MP.out ?_
  rintro e w14 ⟨x14, rfl, hx14, hx14', hF14, _⟩
  have F14 : Hid _ := hF14
  have S6 : Hid (w5.heap.size ≤ w6.heap.size ∧ w6.heap.size ≤ w7.heap.size ∧ w7.heap.size ≤ w8.heap.size ∧ w8.heap.size ≤ w13.heap.size) := ⟨Y6.out.size, Y7.out.size, Y8.out.size, Y13.out.size⟩
  have V714 : Hid (SA w14 (fun b => w6.heap.size ≤ b ∧ b < w7.heap.size) v a7) := SA_ks (V7.out w13 Y713.out) fun b hb hlt => F14.out.block b hlt fun h => by have := h.2.1; have := hb.1; omega
  have V814 : Hid (SA w14 (fun b => w7.heap.size ≤ b ∧ b < w8.heap.size) r a8) := SA_ks (V8.out w13 Y13.out) fun b hb hlt => F14.out.block b hlt fun h => by have := h.2.1; have := hb.1; have := S6.out; omega
  have Z14 : Hid (Ex w5 w14) := hF14.to_ex (Y58.out.trans Y13.out) fun k hk => hk.1
  have X14 : Hid (1 ≤ x14) := hx14
  have MV : Hid _ := markTypeS_any (dep v + 1) v a7 c7 0 x14 w14 (by omega) (by have := L6.out.2.1; omega) L6.out.2.2 (SA_mono V714.out fun _ _ _ => Nat.zero_le _)
  clear MP hF14 hx14 hx14'
  go_wp2_with fail
  refine Calls.mono MV.out ?_
  rintro e w15 ⟨rfl, hb15⟩
  have V815 : Hid (SA w15 (fun b => w7.heap.size ≤ b ∧ b < w8.heap.size) r a8) := SA_ex V814.out hb15
  have Z15 : Hid (Ex w5 w15) := Z14.out.trans hb15
  have dk2 : decide (x14 < 0) = false := by simp; have := X14.out; omega
  clear hb15 MV
  go_wp2_with fail
  refine (EV.out w15 a8 c8 a5 c5 (SA_mono V815.out fun _ _ _ => Nat.zero_le _) (V5.out w15 Z15.out)).mono ?_
  rintro e w16 ⟨rfl, hb16⟩
  have Z16 : Hid (Ex w5 w16) := Z15.out.trans hb16
  have MG : Hid _ := markTypeS_any (dep r + 1) r a8 c8 0 1 w16 (by omega) (by have := RS.out.1; omega) RS.out.2 (SA_mono (SA_ex V815.out hb16) fun _ _ _ => Nat.zero_le _)
  have V816 : Hid (TA w16 0 r a8) := SA_mono (SA_ex V815.out hb16) fun _ _ _ => Nat.zero_le _
  clear hb16
  go_wp2_with fail
  refine Calls.mono MG.out ?_
  rintro e w17 ⟨rfl, hb17⟩
  have Z17 : Hid (Ex w5 w17) := Z16.out.trans hb17
  have V17 : Hid (∀ w', Ex w17 w' → TA w' 0 r a8) := fun _ h => TA_below (TA_below V816.out hb17) h
  have HL : Hid (∀ w', Ex w17 w' → Calls Tryz.prog 15 #[.slice a8 (len r) c8, .int .i64 1] w' fun e w'' => e = .returned (.int .i64 1) ∧ Ex w' w'') := fun w' h => heldTypeS_any (dep r + 1) r a8 c8 0 1 w' (by omega) (by have := RS.out.1; omega) RS.out.2 (by omega) (V17.out _ h)
  clear hb17 MG
  go_wp2_with fail
  refine (HL.out w17 (Ex.refl _)).mono ?_
  rintro e w18 ⟨rfl, hb18⟩
  have U18 : Hid (Ex w17 w18) := hb18
  have X18 : Hid (Ex w w18) := X5.out.trans (Z17.out.trans hb18)
  clear hb18
  go_wp2_with fail
  refine (TO.out _ X18.out).mono ?_
  rintro e w19 ⟨a19, rfl, hq19, hb19⟩
  have U19 : Hid (Ex w17 w19) := U18.out.trans hb19
  have X19 : Hid (Ex w w19) := X18.out.trans hb19
  have Q19 : Hid (∀ w', Ex w19 w' → QA w' 0 l a19) := fun w' h => QA_below (QA_lo hq19.a (Nat.zero_le _)) h
  clear hq19 hb19
  go_wp2_with fail
  refine (TV.out _ X19.out).mono ?_
  rintro e w20 ⟨a20, c20, rfl, hv20, hb20⟩
  have U20 : Hid (Ex w17 w20) := U19.out.trans hb20
  have X20 : Hid (Ex w w20) := X19.out.trans hb20
  have V20 : Hid (TA w20 0 v a20) := SA_mono hv20 fun _ _ _ => Nat.zero_le _
  have Q20 : Hid (QA w20 0 l a19) := Q19.out w20 hb20
  clear hv20 hb20
  go_wp2_with fail
  refine (IP.out _ _ _ _ X20.out Q20.out V20.out).mono ?_
  rintro e w21 ⟨a21, c21, rfl, hv21, hb21⟩
  have U21 : Hid (Ex w17 w21) := U20.out.trans hb21
  have V21 : Hid (TA w21 0 r a21) := SA_mono hv21 fun _ _ _ => Nat.zero_le _
  clear hv21 hb21
  go_wp2_with fail
  refine (EV.out w21 a21 c21 a5 c5 V21.out (V5.out w21 (Z17.out.trans U21.out))).mono ?_
  rintro e w22 ⟨rfl, hb22⟩
  have U22 : Hid (Ex w17 w22) := U21.out.trans hb22
  clear hb22
  go_wp2_with fail
  refine (HL.out w22 U22.out).mono ?_
  rintro e w23 ⟨rfl, hb23⟩
  go_wp2_with fail
  go_ret
  exact ⟨rfl, X5.out.trans (Z17.out.trans (U22.out.trans hb23))⟩

end Go.Proofs.YtgpdnoghlommeaaGreatDoor

namespace Go.Proofs.YtgpdnoghlommeaaGreatDoor

open Go.RowKit Go.Deep Go.ChangeShapes Go.WideShapes

set_option maxRecDepth 100000

/-- So many of a family. -/
def build (g : Nat → Int × F) : Nat → Nat → F
  | _, 0 => .nil
  | i, n + 1 => .node 0 0 (g i).1 (g i).2 (build g (i + 1) n)
theorem len_build (g : Nat → Int × F) : ∀ i n, len (build g i n) = n
  | _, 0 => rfl
  | i, n + 1 => by simp [build, len, len_build g (i + 1) n]
theorem kid_build (g : Nat → Int × F) : ∀ i n j, j < n → kid (build g i n) j = (g (i + j)).2
  | _, 0, j, h => by omega
  | i, n + 1, 0, _ => rfl
  | i, n + 1, j + 1, h => by
    show kid (build g (i + 1) n) j = _
    rw [kid_build g (i + 1) n j (by omega)]; congr 2; omega
theorem num_build (g : Nat → Int × F) : ∀ i n j, j < n → num (build g i n) j = (g (i + j)).1
  | _, 0, j, h => by omega
  | i, n + 1, 0, _ => rfl
  | i, n + 1, j + 1, h => by
    show num (build g (i + 1) n) j = _
    rw [num_build g (i + 1) n j (by omega)]; congr 2; omega
theorem Lm_mk : ∀ {f : F}, (∀ j, j < len f → len (kid f j) ≤ 9223372036854775807 ∧ Lm (kid f j)) → Lm f
  | .nil, _ => trivial
  | .node _ _ _ k r, h => ⟨(h 0 (by simp [len])).1, (h 0 (by simp [len])).2, Lm_mk fun j hj => h (j + 1) (by simp only [len]; omega)⟩

theorem Tryz.cells49 : Tryz.prog.cellsOf 49 = 1 := by kernel_rfl
theorem Tryz.cells23 : Tryz.prog.cellsOf 23 = 1 := by kernel_rfl

theorem open_type {H : Type} {enc : TypeId × Value → H} {w : World} {sp : Nat → Bool} {hd : Bool} : ∀ (fuel : Nat) (cs : List Value) (x : DataW H × List MemPlace), DataW.trod enc Tryz.prog w 0 sp hd fuel 23 cs = some x →
    ∃ (f : F) (a : Option Addr) (cap : Nat), cs = [.slice a (len f) cap] ∧ TA w 0 f a ∧ len f ≤ 9223372036854775807 ∧ Lm f := by
  intro fuel
  induction fuel using Nat.strongRecOn with
  | _ fuel ih =>
    intro cs x h
    rcases DataW.trod_slice Tryz.underlying23 h with ⟨rfl, _⟩ | ⟨a, n, cap, elems, rest, m, hfm, rfl, _, hb, hl, hm, hlen, hel, _, _⟩
    · exact ⟨.nil, none, 0, rfl, Or.inl rfl, by simp [len], trivial⟩
    · unfold maxLen at hm
      have hfam : ∀ i, i < n → ∃ g : Int × F, ∃ a' cap', w.cell? (a.add i) = some (.slice a' (len g.2) cap') ∧ TA w 0 g.2 a' ∧ len g.2 ≤ 9223372036854775807 ∧ Lm g.2 := by
        intro i hi
        have e := hel i hi
        rw [Tryz.cells49, Nat.mul_one] at e
        have hi' : i < elems.length := by omega
        rw [List.getElem?_eq_getElem hi', Option.bind_eq_some_iff] at e
        obtain ⟨cs', h1, h2⟩ := e
        obtain ⟨_, hl1, _⟩ := World.cells?_some h1
        match cs', hl1 with
        | [v], _ =>
          have hc := cell_of_cells?_one h1
          obtain ⟨xs, k, hmk, _, _, hxl, hf⟩ := DataW.trod_struct Tryz.underlying49 h2
          have h3 : DataW.trod enc Tryz.prog w 0 sp hd k 23 (([v].drop 0).take (Tryz.prog.cellsOf 23)) = xs[0]? := hf 0 _ rfl
          match xs, hxl with
          | [y], _ =>
            rw [Tryz.cells23] at h3
            obtain ⟨g, a', cap', e1, e2, e3, e4⟩ := ih k (by omega) [v] y (by simpa using h3)
            simp only [List.cons.injEq, and_true] at e1
            exact ⟨(0, g), a', cap', by rw [hc, e1], e2, e3, e4⟩
      haveI : Inhabited (Int × F) := ⟨(0, .nil)⟩
      obtain ⟨g, hg⟩ := choose_lt hfam
      by_cases hn : n = 0
      · subst hn
        exact ⟨.nil, some a, cap, rfl, Or.inl rfl, by simp [len], trivial⟩
      · obtain ⟨b, o, spot⟩ := a
        obtain ⟨_, _, hc0, _⟩ := hg 0 (by omega)
        have hs : spot = none := by simpa [Addr.add] using World.cell?_spot hc0
        subst hs
        refine ⟨build g 0 n, some ⟨b, o, none⟩, cap, by rw [len_build], SA_mk (Nat.zero_le _) fun i hi => ?_, by rw [len_build]; omega, Lm_mk fun i hi => ?_⟩
        · rw [len_build] at hi
          obtain ⟨a', cap', e1, e2, _⟩ := hg i hi
          rw [kid_build g 0 n i hi, Nat.zero_add]
          rw [add_plain] at e1
          exact ⟨a', cap', e1, e2⟩
        · rw [len_build] at hi
          obtain ⟨a', cap', _, _, e3, e4⟩ := hg i hi
          rw [kid_build g 0 n i hi, Nat.zero_add]
          exact ⟨e3, e4⟩

/-- A type by value. -/
theorem open_typeV {H : Type} {enc : TypeId × Value → H} {W : World} {sp : Nat → Bool} {hd : Bool} {r : Reach} {b0 : Nat} {v : Value} {dd : DataW H} {p : List MemPlace} (hv : Value.okWide Tryz.prog W r b0 49 v) (h : DataW.Trod enc Tryz.prog W 0 sp hd 49 v dd p) :
    ∃ (f : F) (a : Option Addr) (cap : Nat), v = .agg #[.slice a (len f) cap] ∧ TA W 0 f a ∧ len f ≤ 9223372036854775807 ∧ Lm f := by
  obtain ⟨cs, rfl, hsz⟩ := okWide_struct Tryz.underlying49 hv
  rw [Tryz.cells49] at hsz
  obtain ⟨fuel, hf⟩ := h
  obtain ⟨xs, k, _, _, _, hxl, hff⟩ := DataW.trod_struct Tryz.underlying49 hf
  have h3 : DataW.trod enc Tryz.prog W 0 sp hd k 23 (((Value.agg cs).cells.toList.drop 0).take (Tryz.prog.cellsOf 23)) = xs[0]? := hff 0 _ rfl
  rw [Tryz.cells23] at h3
  obtain ⟨l⟩ := cs
  match l, hsz with
  | [c], _ =>
    match xs, hxl with
    | [y], _ =>
      obtain ⟨g, a', cap', e1, e2, e3, e4⟩ := open_type k [c] y (by simpa [Value.cells] using h3)
      simp only [List.cons.injEq, and_true] at e1
      exact ⟨g, a', cap', by rw [e1], e2, e3, e4⟩

end Go.Proofs.YtgpdnoghlommeaaGreatDoor

namespace Go.Proofs.YtgpdnoghlommeaaGreatDoor

open Go.ChangeShapes Go.WideShapes Go.ChangeAt Go.RowKit Go.Deep

set_option maxRecDepth 100000

/-- A list of numbers by value. -/
theorem open_intsV {H : Type} {enc : TypeId × Value → H} {W : World} {sp : Nat → Bool} {hd : Bool} {r : Reach} {b0 : Nat} {v : Value} {dd : DataW H} {p : List MemPlace} (hv : Value.okWide Tryz.prog W r b0 88 v) (h : DataW.Trod enc Tryz.prog W 0 sp hd 88 v dd p) :
    ∃ (xs : List Int) (a : Option Addr) (cap : Nat), v = .slice a xs.length cap ∧ PA W 0 xs a ∧ xs.length ≤ 9223372036854775807 := by
  obtain ⟨a, len, cap, rfl⟩ := okWide_slice Tryz.underlying88 hv
  obtain ⟨fuel, hf⟩ := h
  rcases open_ints Tryz.underlying88 Tryz.underlying3 (by kernel_rfl) hf with ⟨hcs, _⟩ | ⟨x, l, c, zs, hcs, _, hl, hm, hz, _, hcell, _⟩
  · simp [Value.cells] at hcs
    obtain ⟨rfl, rfl, rfl⟩ := hcs
    exact ⟨[], none, 0, rfl, Or.inl rfl, by simp⟩
  · simp [Value.cells] at hcs
    obtain ⟨rfl, rfl, rfl⟩ := hcs
    unfold maxLen at hm
    have hle : len ≤ zs.length := by rw [hz]; split <;> omega
    have htl : (zs.take len).length = len := by simp; omega
    refine ⟨zs.take len, some x, cap, by rw [htl], ?_, by omega⟩
    by_cases h0 : len = 0
    · exact Or.inl (by omega)
    · obtain ⟨b, o, s⟩ := x
      have h1 := hcell 0 (by omega)
      have hs : s = none := by simpa [Addr.add] using World.cell?_spot h1
      subst hs
      refine Or.inr ⟨b, o, rfl, Nat.zero_le _, fun i hi => ?_⟩
      have := hcell i (by omega)
      rw [add_plain] at this
      rw [this]
      simp [List.getD, List.getElem?_take_of_lt (show i < len by omega)]

end Go.Proofs.YtgpdnoghlommeaaGreatDoor

namespace Go.Proofs.YtgpdnoghlommeaaGreatDoor

open Go.RowKit Go.Deep Go.ChangeShapes Go.WideShapes Go.ChangeAt

set_option maxRecDepth 100000
theorem Tryz.cells88 : Tryz.prog.cellsOf 88 = 1 := by kernel_rfl
theorem Tryz.cells9 : Tryz.prog.cellsOf 9 = 1 := by kernel_rfl

/-- Cells that are a list of numbers. -/
theorem open_intsC {H : Type} {enc : TypeId × Value → H} {W : World} {sp : Nat → Bool} {hd : Bool} {fuel : Nat} {cs : List Value} {x : DataW H × List MemPlace} (hf : DataW.trod enc Tryz.prog W 0 sp hd fuel 88 cs = some x) :
    ∃ (xs : List Int) (a : Option Addr) (cap : Nat), cs = [.slice a xs.length cap] ∧ PA W 0 xs a ∧ xs.length ≤ 9223372036854775807 ∧ xs.length ≤ cap ∧ cap ≤ 9223372036854775807 := by
  rcases open_ints Tryz.underlying88 Tryz.underlying3 (by kernel_rfl) hf with ⟨hcs, _⟩ | ⟨x, len, cap, zs, hcs, _, hl, hm, hz, _, hcell, _⟩
  · exact ⟨[], none, 0, hcs, Or.inl rfl, by simp, by simp, by simp⟩
  · unfold maxLen at hm
    have hle : len ≤ zs.length := by rw [hz]; split <;> omega
    have htl : (zs.take len).length = len := by simp; omega
    refine ⟨zs.take len, some x, cap, by rw [htl]; exact hcs, ?_, by omega, by omega, by omega⟩
    by_cases h0 : len = 0
    · exact Or.inl (by omega)
    · obtain ⟨b, o, s⟩ := x
      have h1 := hcell 0 (by omega)
      have hs : s = none := by simpa [Addr.add] using World.cell?_spot h1
      subst hs
      refine Or.inr ⟨b, o, rfl, Nat.zero_le _, fun i hi => ?_⟩
      have := hcell i (by omega)
      rw [add_plain] at this
      rw [this]
      simp [List.getD, List.getElem?_take_of_lt (show i < len by omega)]

end Go.Proofs.YtgpdnoghlommeaaGreatDoor

namespace Go.Proofs.YtgpdnoghlommeaaGreatDoor

open Go.RowKit Go.Deep Go.ChangeShapes Go.WideShapes Go.ChangeAt

set_option maxRecDepth 100000

theorem Tryz.cells162 : Tryz.prog.cellsOf 162 = 5 := by kernel_rfl
theorem Tryz.cells42 : Tryz.prog.cellsOf 42 = 1 := by kernel_rfl
theorem Tryz.cells159 : Tryz.prog.cellsOf 159 = 8 := by kernel_rfl
theorem Tryz.cells41 : Tryz.prog.cellsOf 41 = 1 := by kernel_rfl
theorem Tryz.cells44 : Tryz.prog.cellsOf 44 = 2 := by kernel_rfl
theorem Tryz.cells46 : Tryz.prog.cellsOf 46 = 4 := by kernel_rfl
theorem Tryz.cells40 : Tryz.prog.cellsOf 40 = 1 := by kernel_rfl
theorem Tryz.cells3 : Tryz.prog.cellsOf 3 = 1 := by kernel_rfl

/-- Cells that are a list of texts. -/
theorem open_strsC {H : Type} {enc : TypeId × Value → H} {W : World} {sp : Nat → Bool} {hd : Bool} {fuel : Nat} {cs : List Value} {x : DataW H × List MemPlace} (hf : DataW.trod enc Tryz.prog W 0 sp hd fuel 40 cs = some x) :
    ∃ (xs : List ByteArray) (a : Option Addr) (cap : Nat), cs = [.slice a xs.length cap] ∧ XA W 0 xs a ∧ xs.length ≤ cap ∧ xs.length ≤ 9223372036854775807 ∧ XLm xs := by
  rcases open_strings Tryz.underlying40 Tryz.underlying9 (by kernel_rfl) hf with ⟨hcs, _⟩ | ⟨x, len, cap, zs, hcs, _, hl, hm, hz, _, hcell, hsz⟩
  · exact ⟨[], none, 0, hcs, Or.inl rfl, by simp, by simp, fun i hi => by simp at hi⟩
  · unfold maxLen at hm hsz
    have hle : len ≤ zs.length := by rw [hz]; split <;> omega
    have htl : (zs.take len).length = len := by simp; omega
    refine ⟨zs.take len, some x, cap, by rw [htl]; exact hcs, ?_, by omega, by omega, fun i hi => ?_⟩
    · by_cases h0 : len = 0
      · exact Or.inl (by omega)
      · obtain ⟨b, o, s⟩ := x
        have h1 := hcell 0 (by omega)
        have hs : s = none := by simpa [Addr.add] using World.cell?_spot h1
        subst hs
        refine Or.inr ⟨b, o, rfl, Nat.zero_le _, fun i hi => ?_⟩
        have := hcell i (by omega)
        rw [add_plain] at this
        rw [this]
        simp [List.getD, List.getElem?_take_of_lt (show i < len by omega), show i < zs.length by omega]
    · rw [htl] at hi
      have := hsz (zs.getD i ⟨#[]⟩) (by simp [List.getD, show i < zs.length by omega])
      simp only [List.getD] at this ⊢
      rw [List.getElem?_take_of_lt hi]
      exact this

/-- So many of a family. -/
def buildT (g : Nat → (Int × Int × ByteArray × List Int × TM)) : Nat → Nat → TM
  | _, 0 => .nil
  | i, n + 1 => .node 0 0 ((g i).1, (g i).2.1, (g i).2.2.1, (g i).2.2.2.1) (g i).2.2.2.2 (buildT g (i + 1) n)
theorem tlen_buildT (g : Nat → (Int × Int × ByteArray × List Int × TM)) : ∀ i n, tlen (buildT g i n) = n
  | _, 0 => rfl
  | i, n + 1 => by simp [buildT, tlen, tlen_buildT g (i + 1) n]
theorem tkind_buildT (g : Nat → (Int × Int × ByteArray × List Int × TM)) : ∀ i n j, j < n → tkind (buildT g i n) j = (g (i + j)).1
  | _, 0, j, h => by omega
  | i, n + 1, 0, _ => rfl
  | i, n + 1, j + 1, h => by
    show tkind (buildT g (i + 1) n) j = _
    rw [tkind_buildT g (i + 1) n j (by omega), show i + 1 + j = i + (j + 1) by omega]
theorem tnum_buildT (g : Nat → (Int × Int × ByteArray × List Int × TM)) : ∀ i n j, j < n → tnum (buildT g i n) j = (g (i + j)).2.1
  | _, 0, j, h => by omega
  | i, n + 1, 0, _ => rfl
  | i, n + 1, j + 1, h => by
    show tnum (buildT g (i + 1) n) j = _
    rw [tnum_buildT g (i + 1) n j (by omega), show i + 1 + j = i + (j + 1) by omega]
theorem tname_buildT (g : Nat → (Int × Int × ByteArray × List Int × TM)) : ∀ i n j, j < n → tname (buildT g i n) j = (g (i + j)).2.2.1
  | _, 0, j, h => by omega
  | i, n + 1, 0, _ => rfl
  | i, n + 1, j + 1, h => by
    show tname (buildT g (i + 1) n) j = _
    rw [tname_buildT g (i + 1) n j (by omega), show i + 1 + j = i + (j + 1) by omega]
theorem tpath_buildT (g : Nat → (Int × Int × ByteArray × List Int × TM)) : ∀ i n j, j < n → tpath (buildT g i n) j = (g (i + j)).2.2.2.1
  | _, 0, j, h => by omega
  | i, n + 1, 0, _ => rfl
  | i, n + 1, j + 1, h => by
    show tpath (buildT g (i + 1) n) j = _
    rw [tpath_buildT g (i + 1) n j (by omega), show i + 1 + j = i + (j + 1) by omega]
theorem tkid_buildT (g : Nat → (Int × Int × ByteArray × List Int × TM)) : ∀ i n j, j < n → tkid (buildT g i n) j = (g (i + j)).2.2.2.2
  | _, 0, j, h => by omega
  | i, n + 1, 0, _ => rfl
  | i, n + 1, j + 1, h => by
    show tkid (buildT g (i + 1) n) j = _
    rw [tkid_buildT g (i + 1) n j (by omega), show i + 1 + j = i + (j + 1) by omega]

theorem TLm_mk : ∀ {f : TM}, (∀ j, j < tlen f → (tname f j).size ≤ 9223372036854775807 ∧ (tpath f j).length ≤ 9223372036854775807 ∧ tlen (tkid f j) ≤ 9223372036854775807 ∧ TLm (tkid f j)) → TLm f
  | .nil, _ => trivial
  | .node _ _ (_, _, s, p) k r, h => ⟨(h 0 (by simp [tlen])).1, (h 0 (by simp [tlen])).2.1, (h 0 (by simp [tlen])).2.2.1, (h 0 (by simp [tlen])).2.2.2, TLm_mk fun j hj => h (j + 1) (by simp only [tlen]; omega)⟩

theorem open_terms {H : Type} {enc : TypeId × Value → H} {w : World} {sp : Nat → Bool} {hd : Bool} : ∀ (fuel : Nat) (cs : List Value) (x : DataW H × List MemPlace), DataW.trod enc Tryz.prog w 0 sp hd fuel 42 cs = some x →
    ∃ (f : TM) (a : Option Addr) (cap : Nat), cs = [.slice a (tlen f) cap] ∧ MA w 0 f a ∧ tlen f ≤ 9223372036854775807 ∧ TLm f := by
  intro fuel
  induction fuel using Nat.strongRecOn with
  | _ fuel ih =>
    intro cs x h
    rcases DataW.trod_slice Tryz.underlying42 h with ⟨rfl, _⟩ | ⟨a, n, cap, elems, rest, m, hfm, rfl, _, hb, hl, hm, hlen, hel, _, _⟩
    · exact ⟨.nil, none, 0, rfl, Or.inl rfl, by simp [tlen], trivial⟩
    · unfold maxLen at hm
      have hfam : ∀ i, i < n → ∃ g : (Int × Int × ByteArray × List Int × TM), ∃ pa pc a' cap', w.cell? ((a.add (i * 5)).add 0) = some (.int .i64 g.1) ∧ w.cell? ((a.add (i * 5)).add 1) = some (.int .i64 g.2.1) ∧ w.cell? ((a.add (i * 5)).add 2) = some (.string g.2.2.1) ∧ w.cell? ((a.add (i * 5)).add 3) = some (.slice pa g.2.2.2.1.length pc) ∧ w.cell? ((a.add (i * 5)).add 4) = some (.slice a' (tlen g.2.2.2.2) cap') ∧ PA w 0 g.2.2.2.1 pa ∧ MA w 0 g.2.2.2.2 a' ∧ g.2.2.1.size ≤ 9223372036854775807 ∧ g.2.2.2.1.length ≤ 9223372036854775807 ∧ tlen g.2.2.2.2 ≤ 9223372036854775807 ∧ TLm g.2.2.2.2 ∧ g.2.2.2.1.length ≤ pc ∧ pc ≤ 9223372036854775807 := by
        intro i hi
        have e := hel i hi
        rw [Tryz.cells162] at e
        have hi' : i < elems.length := by omega
        rw [List.getElem?_eq_getElem hi', Option.bind_eq_some_iff] at e
        obtain ⟨cs', h1, h2⟩ := e
        obtain ⟨_, hl1, hcc⟩ := World.cells?_some h1
        match cs', hl1 with
        | [u0, u1, u2, u3, u4], _ =>
          have hc0 := hcc 0 (by omega)
          have hc1 := hcc 1 (by omega)
          have hc2 := hcc 2 (by omega)
          have hc3 := hcc 3 (by omega)
          have hc4 := hcc 4 (by omega)
          obtain ⟨xs, k, hmk, _, _, hxl, hf⟩ := DataW.trod_struct Tryz.underlying162 h2
          have f0 : DataW.trod enc Tryz.prog w 0 sp hd k 3 (([u0, u1, u2, u3, u4].drop 0).take (Tryz.prog.cellsOf 3)) = xs[0]? := hf 0 _ rfl
          have f1 : DataW.trod enc Tryz.prog w 0 sp hd k 3 (([u0, u1, u2, u3, u4].drop 1).take (Tryz.prog.cellsOf 3)) = xs[1]? := hf 1 _ rfl
          have f2 : DataW.trod enc Tryz.prog w 0 sp hd k 9 (([u0, u1, u2, u3, u4].drop 2).take (Tryz.prog.cellsOf 9)) = xs[2]? := hf 2 _ rfl
          have f3 : DataW.trod enc Tryz.prog w 0 sp hd k 88 (([u0, u1, u2, u3, u4].drop 3).take (Tryz.prog.cellsOf 88)) = xs[3]? := hf 3 _ rfl
          have f4 : DataW.trod enc Tryz.prog w 0 sp hd k 42 (([u0, u1, u2, u3, u4].drop 4).take (Tryz.prog.cellsOf 42)) = xs[4]? := hf 4 _ rfl
          match xs, hxl with
          | [y0, y1, y2, y3, y4], _ =>
            rw [Tryz.cells3] at f0 f1
            rw [Tryz.cells9] at f2
            rw [Tryz.cells88] at f3
            rw [Tryz.cells42] at f4
            obtain ⟨k', e0, _, _⟩ := DataW.trod_int Tryz.underlying3 (cs := [u0]) (x := y0) (by simpa using f0)
            obtain ⟨n', e1, _, _⟩ := DataW.trod_int Tryz.underlying3 (cs := [u1]) (x := y1) (by simpa using f1)
            obtain ⟨s', e2, _, z2⟩ := DataW.trod_string Tryz.underlying9 (cs := [u2]) (x := y2) (by simpa using f2)
            obtain ⟨p', pa, pc, e3, z3, z4, z8⟩ := open_intsC (cs := [u3]) (x := y3) (by simpa using f3)
            obtain ⟨g, a', cap', e4, z5, z6, z7⟩ := ih k (by omega) [u4] y4 (by simpa using f4)
            simp only [List.cons.injEq, and_true] at e0 e1 e2 e3 e4
            exact ⟨(k', n', s', p', g), pa, pc, a', cap', by rw [hc0, e0]; rfl, by rw [hc1, e1]; rfl, by rw [hc2, e2]; rfl, by rw [hc3, e3]; rfl, by rw [hc4, e4]; rfl, z3, z5, z2, z4, z6, z7, z8⟩
      haveI : Inhabited (Int × Int × ByteArray × List Int × TM) := ⟨(0, 0, ⟨#[]⟩, [], .nil)⟩
      obtain ⟨g, hg⟩ := choose_lt hfam
      by_cases hn : n = 0
      · subst hn
        exact ⟨.nil, some a, cap, rfl, Or.inl rfl, by simp [tlen], trivial⟩
      · obtain ⟨b, o, spot⟩ := a
        obtain ⟨_, _, _, _, hc0, _⟩ := hg 0 (by omega)
        have hs : spot = none := by simpa [Addr.add] using World.cell?_spot hc0
        subst hs
        refine ⟨buildT g 0 n, some ⟨b, o, none⟩, cap, by rw [tlen_buildT], MS_mk (Nat.zero_le _) fun i hi => ?_, by rw [tlen_buildT]; omega, TLm_mk fun i hi => ?_⟩
        · rw [tlen_buildT] at hi
          obtain ⟨pa, pc, a', cap', e0, e1, e2, e3, e4, e5, e6, _, _, _, _, e8⟩ := hg i hi
          simp only [MT]
          rw [tkind_buildT g 0 n i hi, tnum_buildT g 0 n i hi, tname_buildT g 0 n i hi, tpath_buildT g 0 n i hi, tkid_buildT g 0 n i hi, Nat.zero_add]
          rw [add_plain, add_plain] at e0 e1 e2 e3 e4
          exact ⟨e0, e1, e2, ⟨pa, pc, e3, e5, e8⟩, a', cap', e4, e6⟩
        · rw [tlen_buildT] at hi
          obtain ⟨pa, pc, a', cap', _, _, _, _, _, _, _, e7, e8, e9, ea, _⟩ := hg i hi
          rw [tname_buildT g 0 n i hi, tpath_buildT g 0 n i hi, tkid_buildT g 0 n i hi, Nat.zero_add]
          exact ⟨e7, e8, e9, ea⟩

/-- So many of a family. -/
def buildB (g : Nat → (Int × List ByteArray × ByteArray × TM × BD × TM × BD × TM)) : Nat → Nat → BD
  | _, 0 => .nil
  | i, n + 1 => .node 0 0 ((g i).1, (g i).2.1, (g i).2.2.1, (g i).2.2.2.1, (g i).2.2.2.2.2.1, (g i).2.2.2.2.2.2.2) (g i).2.2.2.2.1 (.node 0 0 (0, [], ⟨#[]⟩, .nil, .nil, .nil) (g i).2.2.2.2.2.2.1 (buildB g (i + 1) n))
theorem blen_buildB (g : Nat → (Int × List ByteArray × ByteArray × TM × BD × TM × BD × TM)) : ∀ i n, blen (buildB g i n) = n
  | _, 0 => rfl
  | i, n + 1 => by simp [buildB, blen, blen_buildB g (i + 1) n]
theorem bkind_buildB (g : Nat → (Int × List ByteArray × ByteArray × TM × BD × TM × BD × TM)) : ∀ i n j, j < n → bkind (buildB g i n) j = (g (i + j)).1
  | _, 0, j, h => by omega
  | i, n + 1, 0, _ => rfl
  | i, n + 1, j + 1, h => by
    show bkind (buildB g (i + 1) n) j = _
    rw [bkind_buildB g (i + 1) n j (by omega), show i + 1 + j = i + (j + 1) by omega]
theorem bnames_buildB (g : Nat → (Int × List ByteArray × ByteArray × TM × BD × TM × BD × TM)) : ∀ i n j, j < n → bnames (buildB g i n) j = (g (i + j)).2.1
  | _, 0, j, h => by omega
  | i, n + 1, 0, _ => rfl
  | i, n + 1, j + 1, h => by
    show bnames (buildB g (i + 1) n) j = _
    rw [bnames_buildB g (i + 1) n j (by omega), show i + 1 + j = i + (j + 1) by omega]
theorem bfn_buildB (g : Nat → (Int × List ByteArray × ByteArray × TM × BD × TM × BD × TM)) : ∀ i n j, j < n → bfn (buildB g i n) j = (g (i + j)).2.2.1
  | _, 0, j, h => by omega
  | i, n + 1, 0, _ => rfl
  | i, n + 1, j + 1, h => by
    show bfn (buildB g (i + 1) n) j = _
    rw [bfn_buildB g (i + 1) n j (by omega), show i + 1 + j = i + (j + 1) by omega]
theorem bterms_buildB (g : Nat → (Int × List ByteArray × ByteArray × TM × BD × TM × BD × TM)) : ∀ i n j, j < n → bterms (buildB g i n) j = (g (i + j)).2.2.2.1
  | _, 0, j, h => by omega
  | i, n + 1, 0, _ => rfl
  | i, n + 1, j + 1, h => by
    show bterms (buildB g (i + 1) n) j = _
    rw [bterms_buildB g (i + 1) n j (by omega), show i + 1 + j = i + (j + 1) by omega]
theorem bthen_buildB (g : Nat → (Int × List ByteArray × ByteArray × TM × BD × TM × BD × TM)) : ∀ i n j, j < n → bthen (buildB g i n) j = (g (i + j)).2.2.2.2.1
  | _, 0, j, h => by omega
  | i, n + 1, 0, _ => rfl
  | i, n + 1, j + 1, h => by
    show bthen (buildB g (i + 1) n) j = _
    rw [bthen_buildB g (i + 1) n j (by omega), show i + 1 + j = i + (j + 1) by omega]
theorem btsay_buildB (g : Nat → (Int × List ByteArray × ByteArray × TM × BD × TM × BD × TM)) : ∀ i n j, j < n → btsay (buildB g i n) j = (g (i + j)).2.2.2.2.2.1
  | _, 0, j, h => by omega
  | i, n + 1, 0, _ => rfl
  | i, n + 1, j + 1, h => by
    show btsay (buildB g (i + 1) n) j = _
    rw [btsay_buildB g (i + 1) n j (by omega), show i + 1 + j = i + (j + 1) by omega]
theorem belse_buildB (g : Nat → (Int × List ByteArray × ByteArray × TM × BD × TM × BD × TM)) : ∀ i n j, j < n → belse (buildB g i n) j = (g (i + j)).2.2.2.2.2.2.1
  | _, 0, j, h => by omega
  | i, n + 1, 0, _ => rfl
  | i, n + 1, j + 1, h => by
    show belse (buildB g (i + 1) n) j = _
    rw [belse_buildB g (i + 1) n j (by omega), show i + 1 + j = i + (j + 1) by omega]
theorem besay_buildB (g : Nat → (Int × List ByteArray × ByteArray × TM × BD × TM × BD × TM)) : ∀ i n j, j < n → besay (buildB g i n) j = (g (i + j)).2.2.2.2.2.2.2
  | _, 0, j, h => by omega
  | i, n + 1, 0, _ => rfl
  | i, n + 1, j + 1, h => by
    show besay (buildB g (i + 1) n) j = _
    rw [besay_buildB g (i + 1) n j (by omega), show i + 1 + j = i + (j + 1) by omega]

theorem BLm_mk : ∀ {f : BD}, (∀ j, j < blen f → (bnames f j).length ≤ 9223372036854775807 ∧ XLm (bnames f j) ∧ (bfn f j).size ≤ 9223372036854775807 ∧ tlen (bterms f j) ≤ 9223372036854775807 ∧ TLm (bterms f j) ∧ blen (bthen f j) ≤ 9223372036854775807 ∧ BLm (bthen f j) ∧ tlen (btsay f j) ≤ 9223372036854775807 ∧ TLm (btsay f j) ∧ blen (belse f j) ≤ 9223372036854775807 ∧ BLm (belse f j) ∧ tlen (besay f j) ≤ 9223372036854775807 ∧ TLm (besay f j)) → BLm f
  | .nil, _ => trivial
  | .node _ _ _ _ .nil, _ => trivial
  | .node _ _ (_, ns, fn, ts, tz, ez) tb (.node _ _ _ eb r), h => by
    obtain ⟨h1, h2, h3, h4, h5, h6, h7, h8, h9, ha, hb, hc, hd⟩ := h 0 (by simp [blen])
    exact ⟨h1, h2, h3, h4, h5, h6, h7, h8, h9, ha, hb, hc, hd, BLm_mk fun j hj => h (j + 1) (by simp only [blen]; omega)⟩

/-- Cells that are a body, where its bindings are read by a smaller reader. -/
theorem open_bodyC {H : Type} {enc : TypeId × Value → H} {w : World} {sp : Nat → Bool} {hd : Bool} {fuel : Nat} {v0 v1 : Value} {x : DataW H × List MemPlace}
    (ih : ∀ k, k < fuel → ∀ (cs : List Value) (x : DataW H × List MemPlace), DataW.trod enc Tryz.prog w 0 sp hd k 41 cs = some x → ∃ (f : BD) (a : Option Addr) (cap : Nat), cs = [.slice a (blen f) cap] ∧ BA w 0 f a ∧ blen f ≤ 9223372036854775807 ∧ BLm f)
    (h : DataW.trod enc Tryz.prog w 0 sp hd fuel 44 [v0, v1] = some x) :
    ∃ (b : BD) (ba : Option Addr) (bc : Nat) (z : TM) (za : Option Addr) (zc : Nat), v0 = .slice ba (blen b) bc ∧ v1 = .slice za (tlen z) zc ∧ BA w 0 b ba ∧ MA w 0 z za ∧ blen b ≤ 9223372036854775807 ∧ BLm b ∧ tlen z ≤ 9223372036854775807 ∧ TLm z := by
  obtain ⟨xs, k, hmk, _, _, hxl, hf⟩ := DataW.trod_struct Tryz.underlying44 h
  have f0 : DataW.trod enc Tryz.prog w 0 sp hd k 41 (([v0, v1].drop 0).take (Tryz.prog.cellsOf 41)) = xs[0]? := hf 0 _ rfl
  have f1 : DataW.trod enc Tryz.prog w 0 sp hd k 42 (([v0, v1].drop 1).take (Tryz.prog.cellsOf 42)) = xs[1]? := hf 1 _ rfl
  match xs, hxl with
  | [y0, y1], _ =>
    rw [Tryz.cells41] at f0
    rw [Tryz.cells42] at f1
    obtain ⟨b, ba, bc, e0, z0, z1, z2⟩ := ih k (by omega) [v0] y0 (by simpa using f0)
    obtain ⟨z, za, zc, e1, z3, z4, z5⟩ := open_terms k [v1] y1 (by simpa using f1)
    simp only [List.cons.injEq, and_true] at e0 e1
    exact ⟨b, ba, bc, z, za, zc, e0, e1, z0, z3, z1, z2, z4, z5⟩

theorem open_binds {H : Type} {enc : TypeId × Value → H} {w : World} {sp : Nat → Bool} {hd : Bool} : ∀ (fuel : Nat) (cs : List Value) (x : DataW H × List MemPlace), DataW.trod enc Tryz.prog w 0 sp hd fuel 41 cs = some x →
    ∃ (f : BD) (a : Option Addr) (cap : Nat), cs = [.slice a (blen f) cap] ∧ BA w 0 f a ∧ blen f ≤ 9223372036854775807 ∧ BLm f := by
  intro fuel
  induction fuel using Nat.strongRecOn with
  | _ fuel ih =>
    intro cs x h
    rcases DataW.trod_slice Tryz.underlying41 h with ⟨rfl, _⟩ | ⟨a, n, cap, elems, rest, m, hfm, rfl, _, hb, hl, hm, hlen, hel, _, _⟩
    · exact ⟨.nil, none, 0, rfl, Or.inl rfl, by simp [blen], trivial⟩
    · unfold maxLen at hm
      have hfam : ∀ i, i < n → ∃ g : (Int × List ByteArray × ByteArray × TM × BD × TM × BD × TM), ∃ a1 k1 a3 k3 a4 k4 a5 k5 a6 k6 a7 k7, w.cell? ((a.add (i * 8)).add 0) = some (.int .i64 g.1) ∧ w.cell? ((a.add (i * 8)).add 1) = some (.slice a1 g.2.1.length k1) ∧ w.cell? ((a.add (i * 8)).add 2) = some (.string g.2.2.1) ∧ w.cell? ((a.add (i * 8)).add 3) = some (.slice a3 (tlen g.2.2.2.1) k3) ∧ w.cell? ((a.add (i * 8)).add 4) = some (.slice a4 (blen g.2.2.2.2.1) k4) ∧ w.cell? ((a.add (i * 8)).add 5) = some (.slice a5 (tlen g.2.2.2.2.2.1) k5) ∧ w.cell? ((a.add (i * 8)).add 6) = some (.slice a6 (blen g.2.2.2.2.2.2.1) k6) ∧ w.cell? ((a.add (i * 8)).add 7) = some (.slice a7 (tlen g.2.2.2.2.2.2.2) k7) ∧
          (g.2.1.length ≤ k1 ∧ XA w 0 g.2.1 a1 ∧ MA w 0 g.2.2.2.1 a3 ∧ BA w 0 g.2.2.2.2.1 a4 ∧ MA w 0 g.2.2.2.2.2.1 a5 ∧ BA w 0 g.2.2.2.2.2.2.1 a6 ∧ MA w 0 g.2.2.2.2.2.2.2 a7) ∧
          (g.2.1.length ≤ 9223372036854775807 ∧ XLm g.2.1 ∧ g.2.2.1.size ≤ 9223372036854775807 ∧ tlen g.2.2.2.1 ≤ 9223372036854775807 ∧ TLm g.2.2.2.1 ∧ blen g.2.2.2.2.1 ≤ 9223372036854775807 ∧ BLm g.2.2.2.2.1 ∧ tlen g.2.2.2.2.2.1 ≤ 9223372036854775807 ∧ TLm g.2.2.2.2.2.1 ∧ blen g.2.2.2.2.2.2.1 ≤ 9223372036854775807 ∧ BLm g.2.2.2.2.2.2.1 ∧ tlen g.2.2.2.2.2.2.2 ≤ 9223372036854775807 ∧ TLm g.2.2.2.2.2.2.2) := by
        intro i hi
        have e := hel i hi
        rw [Tryz.cells159] at e
        have hi' : i < elems.length := by omega
        rw [List.getElem?_eq_getElem hi', Option.bind_eq_some_iff] at e
        obtain ⟨cs', h1, h2⟩ := e
        obtain ⟨_, hl1, hcc⟩ := World.cells?_some h1
        match cs', hl1 with
        | [u0, u1, u2, u3, u4, u5, u6, u7], _ =>
          have hc0 := hcc 0 (by omega)
          have hc1 := hcc 1 (by omega)
          have hc2 := hcc 2 (by omega)
          have hc3 := hcc 3 (by omega)
          have hc4 := hcc 4 (by omega)
          have hc5 := hcc 5 (by omega)
          have hc6 := hcc 6 (by omega)
          have hc7 := hcc 7 (by omega)
          obtain ⟨xs, k, hmk, _, _, hxl, hf⟩ := DataW.trod_struct Tryz.underlying159 h2
          have f0 : DataW.trod enc Tryz.prog w 0 sp hd k 3 (([u0, u1, u2, u3, u4, u5, u6, u7].drop 0).take (Tryz.prog.cellsOf 3)) = xs[0]? := hf 0 _ rfl
          have f1 : DataW.trod enc Tryz.prog w 0 sp hd k 40 (([u0, u1, u2, u3, u4, u5, u6, u7].drop 1).take (Tryz.prog.cellsOf 40)) = xs[1]? := hf 1 _ rfl
          have f2 : DataW.trod enc Tryz.prog w 0 sp hd k 9 (([u0, u1, u2, u3, u4, u5, u6, u7].drop 2).take (Tryz.prog.cellsOf 9)) = xs[2]? := hf 2 _ rfl
          have f3 : DataW.trod enc Tryz.prog w 0 sp hd k 42 (([u0, u1, u2, u3, u4, u5, u6, u7].drop 3).take (Tryz.prog.cellsOf 42)) = xs[3]? := hf 3 _ rfl
          have f4 : DataW.trod enc Tryz.prog w 0 sp hd k 44 (([u0, u1, u2, u3, u4, u5, u6, u7].drop 4).take (Tryz.prog.cellsOf 44)) = xs[4]? := hf 4 _ rfl
          have f5 : DataW.trod enc Tryz.prog w 0 sp hd k 44 (([u0, u1, u2, u3, u4, u5, u6, u7].drop 6).take (Tryz.prog.cellsOf 44)) = xs[5]? := hf 5 _ rfl
          match xs, hxl with
          | [y0, y1, y2, y3, y4, y5], _ =>
            rw [Tryz.cells3] at f0
            rw [Tryz.cells40] at f1
            rw [Tryz.cells9] at f2
            rw [Tryz.cells42] at f3
            rw [Tryz.cells44] at f4 f5
            obtain ⟨k', e0, _, _⟩ := DataW.trod_int Tryz.underlying3 (cs := [u0]) (x := y0) (by simpa using f0)
            obtain ⟨nm, a1, k1, e1, z1, z1c, z1l, z1x⟩ := open_strsC (cs := [u1]) (x := y1) (by simpa using f1)
            obtain ⟨s', e2, _, z2⟩ := DataW.trod_string Tryz.underlying9 (cs := [u2]) (x := y2) (by simpa using f2)
            obtain ⟨ts, a3, k3, e3, z3, z3l, z3m⟩ := open_terms k [u3] y3 (by simpa using f3)
            obtain ⟨tb, a4, k4, tz, a5, k5, e4, e5, z4, z5, z4l, z4m, z5l, z5m⟩ := open_bodyC (fuel := k) (v0 := u4) (v1 := u5) (x := y4) (fun k2 hk2 => ih k2 (by omega)) (by simpa using f4)
            obtain ⟨eb, a6, k6, ez, a7, k7, e6, e7, z6, z7, z6l, z6m, z7l, z7m⟩ := open_bodyC (fuel := k) (v0 := u6) (v1 := u7) (x := y5) (fun k2 hk2 => ih k2 (by omega)) (by simpa using f5)
            simp only [List.cons.injEq, and_true] at e0 e1 e2 e3
            exact ⟨(k', nm, s', ts, tb, tz, eb, ez), a1, k1, a3, k3, a4, k4, a5, k5, a6, k6, a7, k7, by rw [hc0, e0]; rfl, by rw [hc1, e1]; rfl, by rw [hc2, e2]; rfl, by rw [hc3, e3]; rfl, by rw [hc4, e4]; rfl, by rw [hc5, e5]; rfl, by rw [hc6, e6]; rfl, by rw [hc7, e7]; rfl, ⟨z1c, z1, z3, z4, z5, z6, z7⟩, ⟨z1l, z1x, z2, z3l, z3m, z4l, z4m, z5l, z5m, z6l, z6m, z7l, z7m⟩⟩
      haveI : Inhabited (Int × List ByteArray × ByteArray × TM × BD × TM × BD × TM) := ⟨(0, [], ⟨#[]⟩, .nil, .nil, .nil, .nil, .nil)⟩
      obtain ⟨g, hg⟩ := choose_lt hfam
      by_cases hn : n = 0
      · subst hn
        exact ⟨.nil, some a, cap, rfl, Or.inl rfl, by simp [blen], trivial⟩
      · obtain ⟨b, o, spot⟩ := a
        obtain ⟨_, _, _, _, _, _, _, _, _, _, _, _, hc0, _⟩ := hg 0 (by omega)
        have hs : spot = none := by simpa [Addr.add] using World.cell?_spot hc0
        subst hs
        refine ⟨buildB g 0 n, some ⟨b, o, none⟩, cap, by rw [blen_buildB], BS_mk (Nat.zero_le _) fun i hi => ?_, by rw [blen_buildB]; omega, BLm_mk fun i hi => ?_⟩
        · rw [blen_buildB] at hi
          obtain ⟨a1, k1, a3, k3, a4, k4, a5, k5, a6, k6, a7, k7, e0, e1, e2, e3, e4, e5, e6, e7, ⟨m0, m1, m3, m4, m5, m6, m7⟩, _⟩ := hg i hi
          simp only [BT8]
          rw [bkind_buildB g 0 n i hi, bnames_buildB g 0 n i hi, bfn_buildB g 0 n i hi, bterms_buildB g 0 n i hi, bthen_buildB g 0 n i hi, btsay_buildB g 0 n i hi, belse_buildB g 0 n i hi, besay_buildB g 0 n i hi, Nat.zero_add]
          rw [add_plain, add_plain] at e0 e1 e2 e3 e4 e5 e6 e7
          exact ⟨e0, ⟨a1, k1, e1, m0, m1⟩, e2, ⟨a3, k3, e3, m3⟩, ⟨a4, k4, e4, m4⟩, ⟨a5, k5, e5, m5⟩, ⟨a6, k6, e6, m6⟩, ⟨a7, k7, e7, m7⟩⟩
        · rw [blen_buildB] at hi
          obtain ⟨a1, k1, a3, k3, a4, k4, a5, k5, a6, k6, a7, k7, _, _, _, _, _, _, _, _, _, hm⟩ := hg i hi
          rw [bnames_buildB g 0 n i hi, bfn_buildB g 0 n i hi, bterms_buildB g 0 n i hi, bthen_buildB g 0 n i hi, btsay_buildB g 0 n i hi, belse_buildB g 0 n i hi, besay_buildB g 0 n i hi, Nat.zero_add]
          exact hm

/-- Functions that come in. -/
theorem open_puresV {H : Type} {enc : TypeId × Value → H} {w : World} {sp : Nat → Bool} {hd : Bool} {r : Reach} {b0 : Nat} {v : Value} {dd : DataW H} {p : List MemPlace} (hv : Value.okWide Tryz.prog w r b0 22 v) (h : DataW.Trod enc Tryz.prog w 0 sp hd 22 v dd p) :
    ∃ (l : List PM) (a : Option Addr) (cap : Nat), v = .slice a l.length cap ∧ QA w 0 l a ∧ l.length ≤ 9223372036854775807 ∧ (∀ j, j < l.length → PLm (l.getD j pm0)) ∧ l.length ≤ cap := by
  obtain ⟨a, n, cap, rfl⟩ := okWide_slice Tryz.underlying22 hv
  obtain ⟨fuel, hf⟩ := h
  rcases DataW.trod_slice Tryz.underlying22 hf with ⟨hcs, _⟩ | ⟨a, n, cap, elems, rest, m, hfm, hcs, _, hb, hl, hm, hlen, hel, _, _⟩
  · simp [Value.cells] at hcs
    obtain ⟨rfl, rfl, rfl⟩ := hcs
    exact ⟨[], none, 0, rfl, Or.inl rfl, by simp, fun j hj => by simp at hj, by simp⟩
  · simp [Value.cells] at hcs
    obtain ⟨rfl, rfl, rfl⟩ := hcs
    unfold maxLen at hm
    have hfam : ∀ i, i < n → ∃ g : PM, ∃ a1 k1 a2 k2 a3 k3, w.cell? ((a.add (i * 4)).add 0) = some (.string g.name) ∧ w.cell? ((a.add (i * 4)).add 1) = some (.slice a1 g.params.length k1) ∧ w.cell? ((a.add (i * 4)).add 2) = some (.slice a2 (blen g.binds) k2) ∧ w.cell? ((a.add (i * 4)).add 3) = some (.slice a3 (tlen g.says) k3) ∧ (g.params.length ≤ k1 ∧ XA w 0 g.params a1 ∧ BA w 0 g.binds a2 ∧ MA w 0 g.says a3) ∧ PLm g := by
      intro i hi
      have e := hel i hi
      rw [Tryz.cells46] at e
      have hi' : i < elems.length := by omega
      rw [List.getElem?_eq_getElem hi', Option.bind_eq_some_iff] at e
      obtain ⟨cs', h1, h2⟩ := e
      obtain ⟨_, hl1, hcc⟩ := World.cells?_some h1
      match cs', hl1 with
      | [u0, u1, u2, u3], _ =>
        have hc0 := hcc 0 (by omega)
        have hc1 := hcc 1 (by omega)
        have hc2 := hcc 2 (by omega)
        have hc3 := hcc 3 (by omega)
        obtain ⟨xs, k, hmk, _, _, hxl, hff⟩ := DataW.trod_struct Tryz.underlying46 h2
        have f0 : DataW.trod enc Tryz.prog w 0 sp hd k 9 (([u0, u1, u2, u3].drop 0).take (Tryz.prog.cellsOf 9)) = xs[0]? := hff 0 _ rfl
        have f1 : DataW.trod enc Tryz.prog w 0 sp hd k 40 (([u0, u1, u2, u3].drop 1).take (Tryz.prog.cellsOf 40)) = xs[1]? := hff 1 _ rfl
        have f2 : DataW.trod enc Tryz.prog w 0 sp hd k 44 (([u0, u1, u2, u3].drop 2).take (Tryz.prog.cellsOf 44)) = xs[2]? := hff 2 _ rfl
        match xs, hxl with
        | [y0, y1, y2], _ =>
          rw [Tryz.cells9] at f0
          rw [Tryz.cells40] at f1
          rw [Tryz.cells44] at f2
          obtain ⟨s', e0, _, z0⟩ := DataW.trod_string Tryz.underlying9 (cs := [u0]) (x := y0) (by simpa using f0)
          obtain ⟨nm, a1, k1, e1, z1, z1c, z1l, z1x⟩ := open_strsC (cs := [u1]) (x := y1) (by simpa using f1)
          obtain ⟨tb, a4, k4, tz, a5, k5, e2, e3, z4, z5, z4l, z4m, z5l, z5m⟩ := open_bodyC (fuel := k) (v0 := u2) (v1 := u3) (x := y2) (fun k2 _ => open_binds k2) (by simpa using f2)
          simp only [List.cons.injEq, and_true] at e0 e1
          exact ⟨⟨s', nm, tb, tz⟩, a1, k1, a4, k4, a5, k5, by rw [hc0, e0]; rfl, by rw [hc1, e1]; rfl, by rw [hc2, e2]; rfl, by rw [hc3, e3]; rfl, ⟨z1c, z1, z4, z5⟩, ⟨z0, z1l, z1x, z4l, z4m, z5l, z5m⟩⟩
    haveI : Inhabited PM := ⟨pm0⟩
    obtain ⟨g, hg⟩ := choose_lt hfam
    have hgl : ((List.range n).map g).length = n := by simp
    have hgg : ∀ i, i < n → ((List.range n).map g).getD i pm0 = g i := fun i hi => by simp [List.getD, hi]
    by_cases hn : n = 0
    · subst hn
      exact ⟨[], some a, cap, rfl, Or.inl rfl, by simp, fun j hj => by simp at hj, by simp⟩
    · obtain ⟨b, o, spot⟩ := a
      obtain ⟨_, _, _, _, _, _, hc0, _⟩ := hg 0 (by omega)
      have hs : spot = none := by simpa [Addr.add] using World.cell?_spot hc0
      subst hs
      refine ⟨(List.range n).map g, some ⟨b, o, none⟩, cap, by rw [hgl], Or.inr ⟨b, o, rfl, Nat.zero_le _, fun i hi => ?_⟩, by rw [hgl]; omega, fun i hi => ?_, by rw [hgl]; omega⟩
      · rw [hgl] at hi
        obtain ⟨a1, k1, a2, k2, a3, k3, e0, e1, e2, e3, ⟨m0, m1, m2, m3⟩, _⟩ := hg i hi
        rw [hgg i hi]
        rw [add_plain, add_plain] at e0 e1 e2 e3
        exact ⟨e0, ⟨a1, k1, e1, m0, m1⟩, ⟨a2, k2, e2, m2⟩, ⟨a3, k3, e3, m3⟩⟩
      · rw [hgl] at hi
        obtain ⟨_, _, _, _, _, _, _, _, _, _, _, hm⟩ := hg i hi
        rw [hgg i hi]
        exact hm

end Go.Proofs.YtgpdnoghlommeaaGreatDoor

namespace Go.Proofs.YtgpdnoghlommeaaGreatDoor

open Go.RowKit Go.Deep Go.ChangeShapes Go.WideShapes Go.ChangeAt

set_option maxRecDepth 100000

/-- A list of texts. -/
theorem open_textsV {H : Type} {enc : TypeId × Value → H} {W : World} {sp : Nat → Bool} {hd : Bool} {r : Reach} {b0 : Nat} {v : Value} {dd : DataW H} {p : List MemPlace} (hv : Value.okWide Tryz.prog W r b0 40 v) (h : DataW.Trod enc Tryz.prog W 0 sp hd 40 v dd p) :
    ∃ (xs : List ByteArray) (a : Option Addr) (cap : Nat), v = .slice a xs.length cap ∧ XA W 0 xs a ∧ xs.length ≤ 9223372036854775807 ∧ XLm xs := by
  obtain ⟨a, n, cap, rfl⟩ := okWide_slice Tryz.underlying40 hv
  obtain ⟨fuel, hf⟩ := h
  obtain ⟨xs, a', cap', e, h1, _, h3, h4⟩ := open_strsC (cs := [.slice a n cap]) (by simpa [Value.cells] using hf)
  simp only [List.cons.injEq, and_true] at e
  exact ⟨xs, a', cap', e, h1, h3, h4⟩
/-- A list of types. -/
theorem open_typesV {H : Type} {enc : TypeId × Value → H} {W : World} {sp : Nat → Bool} {hd : Bool} {r : Reach} {b0 : Nat} {v : Value} {dd : DataW H} {p : List MemPlace} (hv : Value.okWide Tryz.prog W r b0 23 v) (h : DataW.Trod enc Tryz.prog W 0 sp hd 23 v dd p) :
    ∃ (f : F) (a : Option Addr) (cap : Nat), v = .slice a (len f) cap ∧ TA W 0 f a ∧ len f ≤ 9223372036854775807 ∧ Lm f := by
  obtain ⟨a, n, cap, rfl⟩ := okWide_slice Tryz.underlying23 hv
  obtain ⟨fuel, hf⟩ := h
  obtain ⟨f, a', cap', e, h1, h2, h3⟩ := open_type fuel [.slice a n cap] _ (by simpa [Value.cells] using hf)
  simp only [List.cons.injEq, and_true] at e
  exact ⟨f, a', cap', e, h1, h2, h3⟩
/-- A term by value. -/
theorem open_termV {H : Type} {enc : TypeId × Value → H} {W : World} {sp : Nat → Bool} {hd : Bool} {r : Reach} {b0 : Nat} {v : Value} {dd : DataW H} {p : List MemPlace} (hv : Value.okWide Tryz.prog W r b0 162 v) (h : DataW.Trod enc Tryz.prog W 0 sp hd 162 v dd p) :
    ∃ (k n : Int) (s : ByteArray) (x : List Int) (xa : Option Addr) (xc : Nat) (f : TM) (a : Option Addr) (c : Nat), v = .agg #[.int .i64 k, .int .i64 n, .string s, .slice xa x.length xc, .slice a (tlen f) c] ∧ s.size ≤ 9223372036854775807 ∧ PA W 0 x xa ∧ x.length ≤ 9223372036854775807 ∧ MA W 0 f a ∧ tlen f ≤ 9223372036854775807 ∧ TLm f := by
  obtain ⟨cs, rfl, hsz⟩ := okWide_struct Tryz.underlying162 hv
  rw [Tryz.cells162] at hsz
  obtain ⟨fuel, hf⟩ := h
  obtain ⟨xs, k, _, _, _, hxl, hff⟩ := DataW.trod_struct Tryz.underlying162 hf
  have f0 : DataW.trod enc Tryz.prog W 0 sp hd k 3 (((Value.agg cs).cells.toList.drop 0).take (Tryz.prog.cellsOf 3)) = xs[0]? := hff 0 _ rfl
  have f1 : DataW.trod enc Tryz.prog W 0 sp hd k 3 (((Value.agg cs).cells.toList.drop 1).take (Tryz.prog.cellsOf 3)) = xs[1]? := hff 1 _ rfl
  have f2 : DataW.trod enc Tryz.prog W 0 sp hd k 9 (((Value.agg cs).cells.toList.drop 2).take (Tryz.prog.cellsOf 9)) = xs[2]? := hff 2 _ rfl
  have f3 : DataW.trod enc Tryz.prog W 0 sp hd k 88 (((Value.agg cs).cells.toList.drop 3).take (Tryz.prog.cellsOf 88)) = xs[3]? := hff 3 _ rfl
  have f4 : DataW.trod enc Tryz.prog W 0 sp hd k 42 (((Value.agg cs).cells.toList.drop 4).take (Tryz.prog.cellsOf 42)) = xs[4]? := hff 4 _ rfl
  rw [Tryz.cells3] at f0 f1
  rw [Tryz.cells9] at f2
  rw [Tryz.cells88] at f3
  rw [Tryz.cells42] at f4
  obtain ⟨l⟩ := cs
  match l, hsz with
  | [u0, u1, u2, u3, u4], _ =>
    match xs, hxl with
    | [y0, y1, y2, y3, y4], _ =>
      obtain ⟨k', e0, _, _⟩ := DataW.trod_int Tryz.underlying3 (cs := [u0]) (x := y0) (by simpa [Value.cells] using f0)
      obtain ⟨n', e1, _, _⟩ := DataW.trod_int Tryz.underlying3 (cs := [u1]) (x := y1) (by simpa [Value.cells] using f1)
      obtain ⟨s', e2, _, z2⟩ := DataW.trod_string Tryz.underlying9 (cs := [u2]) (x := y2) (by simpa [Value.cells] using f2)
      obtain ⟨p', pa, pc, e3, z3, z4, _⟩ := open_intsC (cs := [u3]) (x := y3) (by simpa [Value.cells] using f3)
      obtain ⟨g, a', cap', e4, z5, z6, z7⟩ := open_terms k [u4] y4 (by simpa [Value.cells] using f4)
      simp only [List.cons.injEq, and_true] at e0 e1 e2 e3 e4
      exact ⟨k', n', s', p', pa, pc, g, a', cap', by rw [e0, e1, e2, e3, e4], z2, z3, z4, z5, z6, z7⟩

end Go.Proofs.YtgpdnoghlommeaaGreatDoor

namespace Go.Proofs.YtgpdnoghlommeaaGreatDoor

open Go.RowKit Go.Deep Go.ChangeShapes Go.WideShapes Go.ChangeAt

set_option maxRecDepth 100000

/-- A text by value. -/
theorem open_textV {W : World} {r : Reach} {b0 : Nat} {v : Value} (hv : Value.okWide Tryz.prog W r b0 9 v) : ∃ s : ByteArray, v = .string s := okWide_string Tryz.underlying9 hv

end Go.Proofs.YtgpdnoghlommeaaGreatDoor
