/- Walks: the exact law on the text of functions. -/
import Derived.Test.YtpibamhkmmgooaaGreatDoorPT6

import Derived.Test.YtpibamhkmmgooaaGreatDoorEQ2

namespace Go.Proofs.YtpibamhkmmgooaaGreatDoor

open Go.RowKit Go.Deep

attribute [local go_sem ↓] Go.wp_at_zero Go.wp_at_succ

theorem PSm_of {l : List PM} (h : PSkTo l l.length) : ∀ i, i < l.length → PSm (l.getD i pm0) := fun i hi => by
  obtain ⟨h1, ⟨h2, h3⟩, h4, h5⟩ := h i hi
  exact ⟨by omega, by omega, h3, by omega⟩

set_option maxRecDepth 100000 in
set_option maxHeartbeats 2000000 in
theorem lawExactPureText (ea : Addr) (l : List PM) (a : Option Addr) (c : Nat) (w : World) (hlen : l.length ≤ 9223372036854775807) (hlm : ∀ j, j < l.length → PLm (l.getD j pm0)) (hG : w.cell? ⟨0, 0, none⟩ = some (EV ea)) (hT : Tab w) (hQ : QA w 0 l a) :
    Calls Tryz.prog 3 #[.slice a l.length c] w fun e w' => e = .returned (.bool true) ∧ Ex w w' := by
  have G : Hid (∀ w', Ex w w' → w'.cell? ⟨0, 0, none⟩ = some (EV ea)) := fun w' h => h.at hG
  have TB : Hid (∀ w', Ex w w' → Tab w') := fun w' h => hT.ex h
  have Q : Hid (∀ w', Ex w w' → QA w' 0 l a) := fun _ h => QA_below hQ h
  have LM : Hid _ := hlm
  have SZ : Hid _ := szPureS_any l a c 1048576 w hlen hlm (by omega) (by omega) hQ
  clear hG hQ hlm hT
  go_enter Tryz.func3, Tryz.ntmps3
  go_wp2_with fail
  refine Calls.mono SZ.out ?_
  rintro e w1 ⟨x, rfl, hx0, hx1, hx2, hb1⟩
  have X1 : Hid (Ex w w1) := hb1
  clear hb1 SZ
  by_cases hx : x < 0
  · go_wp2_with fail
    go_ret
    exact ⟨rfl, X1.out⟩
  obtain ⟨⟨h1, hsk⟩, hqw⟩ := hx2 (by omega)
  have SK : Hid (PSkTo l l.length) := hsk
  have QW : Hid (qW l ≤ 1048576) := by show _ ≤ _; omega
  have TO : Hid (∀ w', Ex w w' → Calls Tryz.prog 6 #[.slice a l.length c] w' fun e w'' => ∃ a', e = .returned (.slice a' l.length l.length) ∧ QA w'' w'.heap.size l a' ∧ Ex w' w'') := fun w' h => toPureS_any l a c w' (by omega) SK.out (Q.out w' h)
  have SP : Hid (∀ w' a', QA w' 0 l a' → Calls Tryz.prog 5 #[.slice a' l.length l.length] w' fun e w'' => e = .returned (.string (textP l)) ∧ Ex w' w'') := fun w' a' h => sPureText_any l a' l.length w' (by omega) (PSm_of SK.out) QW.out h
  have IP : Hid (∀ w' a', Ex w w' → QA w' 0 l a' → Calls Tryz.prog 7 #[.slice a' l.length l.length] w' fun e w'' => e = .returned (.string (textP l)) ∧ Ex w' w'') := fun w' a' hx h => iPureText_any l a' l.length w' QW.out h (TB.out w' hx) (iPureOk_any ea l a' l.length w' (by omega) (Nat.le_refl _) SK.out LM.out (G.out w' hx) h)
  have EQ : Hid (∀ w' a1 a2, QA w' 0 l a1 → QA w' 0 l a2 → Calls Tryz.prog 8 #[.slice a1 l.length l.length, .slice a2 l.length l.length] w' fun e w'' => e = .returned (.bool true) ∧ Ex w' w'') := fun w' a1 a2 h1 h2 => eqPureS_same l a1 a2 l.length l.length w' (by omega) SK.out h1 h2
  generalize textP l = R at SP IP
  clear hx2 hlen hsk hqw
  go_wp2_with fail
  refine (TO.out _ X1.out).mono ?_
  rintro e w2 ⟨a2, rfl, hq2, hb2⟩
  have X2 : Hid (Ex w w2) := X1.out.trans hb2
  have Q2 : Hid (QA w2 0 l a2) := QA_lo hq2 (Nat.zero_le _)
  clear hq2 hb2
  go_wp2_with fail
  refine (SP.out _ _ Q2.out).mono ?_
  rintro e w3 ⟨rfl, hb3⟩
  have X3 : Hid (Ex w w3) := X2.out.trans hb3
  clear hb3
  go_wp2_with fail
  refine (TO.out _ X3.out).mono ?_
  rintro e w4 ⟨a4, rfl, hq4, hb4⟩
  have X4 : Hid (Ex w w4) := X3.out.trans hb4
  have Q4 : Hid (∀ w', Ex w4 w' → QA w' 0 l a4) := fun _ h => QA_below (QA_lo hq4 (Nat.zero_le _)) h
  clear hq4 hb4
  go_wp2_with fail
  refine (IP.out _ _ X4.out (Q4.out _ (Ex.refl _))).mono ?_
  rintro e w5 ⟨rfl, hb5⟩
  have X5 : Hid (Ex w w5) := X4.out.trans hb5
  have Q5 : Hid (∀ w', Ex w5 w' → QA w' 0 l a4) := fun w' h => Q4.out w' (hb5.trans h)
  clear hb5
  go_wp2_with fail
  refine (TO.out _ X5.out).mono ?_
  rintro e w6 ⟨a6, rfl, hq6, hb6⟩
  have X6 : Hid (Ex w w6) := X5.out.trans hb6
  have Q6 : Hid (QA w6 0 l a6) := QA_lo hq6 (Nat.zero_le _)
  have Q7 : Hid (QA w6 0 l a4) := Q5.out w6 hb6
  clear hq6 hb6
  go_wp2_with fail
  refine (EQ.out _ _ _ Q7.out Q6.out).mono ?_
  rintro e w7 ⟨rfl, hb7⟩
  go_wp2_with fail
  go_ret
  exact ⟨rfl, X6.out.trans hb7⟩

end Go.Proofs.YtpibamhkmmgooaaGreatDoor
