/- Walks: TidySize by both, and the exact law on it. A type that comes in, opened. What an argument that is a list of numbers is. A place that comes in, opened. Functions that come in, opened. -/
import Derived.Test.YtgpdnoghlommeaaDoorGLT2
import Derived.Test.YtgpdnoghlommeaaDoorGEQ2
import Derived.Test.YtgpdnoghlommeaaDoorGIM6
import Derived.Deep.Slices
import Derived.Test.YtgpdnoghlommeaaDoorGW7
import Derived.WalkKit
import Derived.ProofKit
import Derived.OpenShut
import Derived.Test.YtgpdnoghlommeaaDoorSZ2
import Derived.SliceStrings
namespace Go.Proofs.YtgpdnoghlommeaaDoor

open Go.RowKit Go.Deep

attribute [local go_sem ↓] Go.wp_at_zero Go.wp_at_succ

set_option maxRecDepth 100000 in
set_option maxHeartbeats 4000000 in
theorem sTidySize_any (l : List PM) (a : Option Addr) (c : Nat) (w : World) (hl : l.length ≤ 1048576) (hq : qN l ≤ 1048576) (hQ : QA w 0 l a) (hps : ∀ i, i < l.length → PSm (l.getD i pm0)) :
    Calls Tryd.prog 5 #[.slice a l.length c] w fun e w' => e = .returned (.int .i64 (sizeR l)) ∧ Ex w w' := by
  have hl : l.length ≤ 1000000000 := by omega
  have Q : Hid (∀ w', Ex w w' → QA w' 0 l a) := fun _ h => QA_below hQ h
  have OKC : Hid (∀ w', Ex w w' → Calls Tryd.prog 10 #[.slice a l.length c] w' fun e w'' => e = .returned (.bool (pureB l)) ∧ Ex w' w'') := fun w' h => sPureOk_any l a c w' hl hps (QA_below hQ h)
  have SM : Hid (∀ j, j ≤ l.length → sumN (qNk l) j ≤ 1048576) := fun j hj => Nat.le_trans (sumN_up (qNk l) j l.length hj) hq
  have QN : Hid (qN l ≤ 1048576) := hq
  obtain ⟨R, hR⟩ : ∃ R, R = sizeR l := ⟨_, rfl⟩
  have RR : Hid (R = if pureB l = true then (qN l : Int) else -1) := hR
  rw [← hR]
  clear hQ hR hq hps
  go_enter Tryd.func5, Tryd.ntmps5
  go_wp2_with fail
  refine (OKC.out _ (Ex.refl _)).mono ?_
  rintro e w1 ⟨rfl, hb1⟩
  have X1 : Hid (Ex w w1) := hb1
  clear hb1 OKC
  obtain ⟨bp, hbp⟩ : ∃ b, pureB l = b := ⟨_, rfl⟩
  rw [hbp] at RR ⊢
  cases bp with
  | false =>
    have HR : Hid (R = -1) := RR.out
    clear hbp
    go_wp2_with fail
    go_ret
    exact ⟨by rw [HR.out]; rfl, X1.out⟩
  | true =>
    have HR : Hid (R = (qN l : Int)) := RR.out
    clear hbp
    go_wp2_with fail
    go_loopw [3, 4] (fun n i wr => ∃ (j m : Nat), j ≤ l.length ∧ i = .int .i64 j ∧ n = .int .i64 (m : Int) ∧ m = sumN (qNk l) j ∧ Ex w wr) (fun _ i _ => l.length - (intOf i).toNat)
    case atStart => exact ⟨0, 0, Nat.zero_le _, rfl, rfl, rfl, X1.out⟩
    case round =>
      obtain ⟨j, m, hj, rfl, rfl, hm, hx⟩ := hrel
      have HM : Hid (m = sumN (qNk l) j) := hm
      have E : Hid (Ex w wr) := hx
      clear hm hx
      by_cases hlt : j < l.length
      · obtain ⟨b, o, rfl, _, hbs, hk⟩ := QA_at (Q.out wr E.out) (by omega)
        obtain ⟨f0, ⟨a1, k1, f1, hh1⟩, ⟨a2, k2, f2, hh2⟩, ⟨a3, k3, f3, hh3⟩⟩ := hk j hlt
        obtain ⟨x, hxx⟩ : ∃ x, bN (l.getD j pm0).binds = x := ⟨_, rfl⟩
        have HN : Hid (m + x = sumN (qNk l) (j + 1)) := by
          show _ = _
          rw [sumN, qNk, hxx, HM.out]
        have hle : m + x ≤ 1048576 := by rw [HN.out]; exact SM.out (j + 1) hlt
        have IT : Hid (∀ w', Ex wr w' → Calls Tryd.prog 11 #[.agg #[.slice a2 (blen (l.getD j pm0).binds) k2, .slice a3 (tlen (l.getD j pm0).says) k3]] w' (NumP x w')) := fun w' h => by
          have := l22Size_any _ (l.getD j pm0).binds a2 k2 a3 (tlen (l.getD j pm0).says) k3 w' (Nat.lt_succ_self _) (by omega) (BA_below hh2 h)
          rw [hxx] at this; exact this
        obtain ⟨g, hg⟩ : ∃ g, l.getD j pm0 = g := ⟨_, rfl⟩
        rw [hg] at f0 f1 f2 f3 IT
        clear hxx hk hh1 hh2 hh3 hg
        go_wp2_with fail
        refine Calls.mono (IT.out _ (Ex.refl _)) ?_
        rintro e w2 ⟨rfl, hb2⟩
        have X2 : Hid (Ex w w2) := E.out.trans hb2
        clear hb2 f0 f1 f2 f3 IT
        go_wp2_with fail
        go_roundw
        case rel => exact ⟨j + 1, m + x, by omega, by go_num, by go_num, HN.out, X2.out⟩
        case measure => simp [intOf]; omega
      · have HE : Hid ((m : Int) = R) := by
          have e : j = l.length := by omega
          show _ = _
          rw [HR.out, HM.out, e]; rfl
        go_wp2_with fail
        go_ret
        exact ⟨by rw [HE.out]; rfl, E.out⟩

set_option maxRecDepth 100000 in
set_option maxHeartbeats 4000000 in
theorem iTidySize_any (l : List PM) (a : Option Addr) (c : Nat) (w : World) (hl : l.length ≤ 1048576) (hq : qN l ≤ 1048576) (hQ : QA w 0 l a) (ea : Addr) (hcap : l.length ≤ c) (hs : PSkTo l l.length) (hlm : ∀ j, j < l.length → PLm (l.getD j pm0)) (hG : w.cell? ⟨0, 0, none⟩ = some (EV ea)) :
    Calls Tryd.prog 7 #[.slice a l.length c] w fun e w' => e = .returned (.int .i64 (sizeR l)) ∧ Ex w w' := by
  have hl : l.length ≤ 1000000000 := by omega
  have Q : Hid (∀ w', Ex w w' → QA w' 0 l a) := fun _ h => QA_below hQ h
  have OKC : Hid (∀ w', Ex w w' → Calls Tryd.prog 13 #[.slice a l.length c] w' fun e w'' => e = .returned (.bool (pureB l)) ∧ Ex w' w'') := fun w' h => iPureOk_any ea l a c w' hl hcap hs hlm (h.at hG) (QA_below hQ h)
  have SM : Hid (∀ j, j ≤ l.length → sumN (qNk l) j ≤ 1048576) := fun j hj => Nat.le_trans (sumN_up (qNk l) j l.length hj) hq
  have QN : Hid (qN l ≤ 1048576) := hq
  obtain ⟨R, hR⟩ : ∃ R, R = sizeR l := ⟨_, rfl⟩
  have RR : Hid (R = if pureB l = true then (qN l : Int) else -1) := hR
  rw [← hR]
  clear hQ hR hq hcap hs hlm hG
  go_enter Tryd.func7, Tryd.ntmps7
  go_wp2_with fail
  refine (OKC.out _ (Ex.refl _)).mono ?_
  rintro e w1 ⟨rfl, hb1⟩
  have X1 : Hid (Ex w w1) := hb1
  clear hb1 OKC
  obtain ⟨bp, hbp⟩ : ∃ b, pureB l = b := ⟨_, rfl⟩
  rw [hbp] at RR ⊢
  cases bp with
  | false =>
    have HR : Hid (R = -1) := RR.out
    clear hbp
    go_wp2_with fail
    go_ret
    exact ⟨by rw [HR.out]; rfl, X1.out⟩
  | true =>
    have HR : Hid (R = (qN l : Int)) := RR.out
    clear hbp
    go_wp2_with fail
    go_loopw [3, 5, 11] (fun n _ i wr => ∃ (j m : Nat), j ≤ l.length ∧ i = .int .i64 j ∧ n = .int .i64 (m : Int) ∧ m = sumN (qNk l) j ∧ Ex w wr) (fun _ _ i _ => l.length - (intOf i).toNat)
    case atStart => exact ⟨0, 0, Nat.zero_le _, rfl, rfl, rfl, X1.out⟩
    case round =>
      obtain ⟨j, m, hj, rfl, rfl, hm, hx⟩ := hrel
      have HM : Hid (m = sumN (qNk l) j) := hm
      have E : Hid (Ex w wr) := hx
      clear hm hx
      by_cases hlt : j < l.length
      · obtain ⟨b, o, rfl, _, hbs, hk⟩ := QA_at (Q.out wr E.out) (by omega)
        obtain ⟨f0, ⟨a1, k1, f1, hh1⟩, ⟨a2, k2, f2, hh2⟩, ⟨a3, k3, f3, hh3⟩⟩ := hk j hlt
        obtain ⟨x, hxx⟩ : ∃ x, bN (l.getD j pm0).binds = x := ⟨_, rfl⟩
        have HN : Hid (m + x = sumN (qNk l) (j + 1)) := by
          show _ = _
          rw [sumN, qNk, hxx, HM.out]
        have hle : m + x ≤ 1048576 := by rw [HN.out]; exact SM.out (j + 1) hlt
        have IT : Hid (∀ w', Ex wr w' → Calls Tryd.prog 14 #[.agg #[.slice a2 (blen (l.getD j pm0).binds) k2, .slice a3 (tlen (l.getD j pm0).says) k3]] w' (NumP x w')) := fun w' h => by
          have := bindsIn_any _ (l.getD j pm0).binds a2 k2 a3 (tlen (l.getD j pm0).says) k3 w' (Nat.lt_succ_self _) (by omega) (BA_below hh2 h)
          rw [hxx] at this; exact this
        obtain ⟨g, hg⟩ : ∃ g, l.getD j pm0 = g := ⟨_, rfl⟩
        rw [hg] at f0 f1 f2 f3 IT
        clear hxx hk hh1 hh2 hh3 hg
        go_wp2_with fail
        refine Calls.mono (IT.out _ (Ex.new _ _)) ?_
        rintro e w2 ⟨rfl, hb2⟩
        have X2 : Hid (Ex w w2) := E.out.trans ((Ex.new _ _).trans hb2)
        clear hb2 f0 f1 f2 f3 IT
        go_wp2_with fail
        go_roundw
        case rel => exact ⟨j + 1, m + x, by omega, by go_num, by go_num, HN.out, X2.out⟩
        case measure => simp [intOf]; omega
      · have HE : Hid ((m : Int) = R) := by
          have e : j = l.length := by omega
          show _ = _
          rw [HR.out, HM.out, e]; rfl
        go_wp2_with fail
        go_ret
        exact ⟨by rw [HE.out]; rfl, E.out⟩

theorem PSm_of {l : List PM} (h : PSkTo l l.length) : ∀ i, i < l.length → PSm (l.getD i pm0) := fun i hi => by
  obtain ⟨h1, ⟨h2, h3⟩, h4, h5⟩ := h i hi
  exact ⟨by omega, by omega, h3, by omega⟩

set_option maxRecDepth 100000 in
set_option maxHeartbeats 2000000 in
theorem lawExactTidySize (ea : Addr) (l : List PM) (a : Option Addr) (c : Nat) (w : World) (hlen : l.length ≤ 9223372036854775807) (hlm : ∀ j, j < l.length → PLm (l.getD j pm0)) (hG : w.cell? ⟨0, 0, none⟩ = some (EV ea)) (hQ : QA w 0 l a) :
    Calls Tryd.prog 3 #[.slice a l.length c] w fun e w' => e = .returned (.bool true) ∧ Ex w w' := by
  have G : Hid (∀ w', Ex w w' → w'.cell? ⟨0, 0, none⟩ = some (EV ea)) := fun w' h => h.at hG
  have Q : Hid (∀ w', Ex w w' → QA w' 0 l a) := fun _ h => QA_below hQ h
  have LM : Hid _ := hlm
  have SZ : Hid _ := szPureS_any l a c 1048576 w hlen hlm (by omega) (by omega) hQ
  clear hG hQ hlm
  go_enter Tryd.func3, Tryd.ntmps3
  go_wp2_with fail
  refine Calls.mono SZ.out ?_
  rintro e w1 ⟨x, rfl, hx0, hx1, hx2, hb1⟩
  have X1 : Hid (Ex w w1) := hb1
  clear hb1 SZ
  by_cases hx : x < 0
  · go_wp2_with fail
    go_ret
    exact ⟨rfl, X1.out⟩
  have hs := hx2 (by omega)
  have h1 : l.length ≤ 1048576 := hs.1.1
  have SK : Hid (PSkTo l l.length) := hs.1.2
  have QN : Hid (qN l ≤ 1048576) := by
    have h3 := qN_le l
    have h4 := hs.2
    show _ ≤ _
    omega
  have TO : Hid (∀ w', Ex w w' → Calls Tryd.prog 6 #[.slice a l.length c] w' fun e w'' => ∃ a', e = .returned (.slice a' l.length l.length) ∧ QA w'' w'.heap.size l a' ∧ Ex w' w'') := fun w' h => toPureS_any l a c w' (by omega) SK.out (Q.out w' h)
  obtain ⟨R, hR⟩ : ∃ R, sizeR l = R := ⟨_, rfl⟩
  have SP : Hid (∀ w' a', QA w' 0 l a' → Calls Tryd.prog 5 #[.slice a' l.length l.length] w' fun e w'' => e = .returned (.int .i64 R) ∧ Ex w' w'') := fun w' a' h => by have := sTidySize_any l a' l.length w' (by omega) QN.out h (PSm_of SK.out); rw [hR] at this; exact this
  have IP : Hid (∀ w' a', Ex w w' → QA w' 0 l a' → Calls Tryd.prog 7 #[.slice a' l.length l.length] w' fun e w'' => e = .returned (.int .i64 R) ∧ Ex w' w'') := fun w' a' hx h => by have := iTidySize_any l a' l.length w' (by omega) QN.out h ea (Nat.le_refl _) SK.out LM.out (G.out w' hx); rw [hR] at this; exact this
  have EQ : Hid (∀ w' a1 a2, QA w' 0 l a1 → QA w' 0 l a2 → Calls Tryd.prog 8 #[.slice a1 l.length l.length, .slice a2 l.length l.length] w' fun e w'' => e = .returned (.bool true) ∧ Ex w' w'') := fun w' a1 a2 h1 h2 => eqPureS_same l a1 a2 l.length l.length w' (by omega) SK.out h1 h2
  have hrr : (R != R) = false := by simp
  clear hx2 hs hR hlen
  go_wp2_with fail
  refine (TO.out _ X1.out).mono ?_
  rintro e w2 ⟨a2, rfl, hq2, hb2⟩
  have X2 : Hid (Ex w w2) := X1.out.trans hb2
  have Q2 : Hid (QA w2 0 l a2) := QA_lo hq2 (Nat.zero_le _)
  clear hq2 hb2
  go_wp2_with fail
  refine (SP.out _ _ Q2.out).mono ?_
  rintro e w3 ⟨rfl, hb3⟩
  have X3 : Hid (Ex w w3) := X2.out.trans hb3
  clear hb3
  go_wp2_with fail
  refine (TO.out _ X3.out).mono ?_
  rintro e w4 ⟨a4, rfl, hq4, hb4⟩
  have X4 : Hid (Ex w w4) := X3.out.trans hb4
  have Q4 : Hid (∀ w', Ex w4 w' → QA w' 0 l a4) := fun _ h => QA_below (QA_lo hq4 (Nat.zero_le _)) h
  clear hq4 hb4
  go_wp2_with fail
  refine (IP.out _ _ X4.out (Q4.out _ (Ex.refl _))).mono ?_
  rintro e w5 ⟨rfl, hb5⟩
  have X5 : Hid (Ex w w5) := X4.out.trans hb5
  have Q5 : Hid (∀ w', Ex w5 w' → QA w' 0 l a4) := fun w' h => Q4.out w' (hb5.trans h)
  clear hb5
  go_wp2_with fail
  refine (TO.out _ X5.out).mono ?_
  rintro e w6 ⟨a6, rfl, hq6, hb6⟩
  have X6 : Hid (Ex w w6) := X5.out.trans hb6
  have Q6 : Hid (QA w6 0 l a6) := QA_lo hq6 (Nat.zero_le _)
  have Q7 : Hid (QA w6 0 l a4) := Q5.out w6 hb6
  clear hq6 hb6
  go_wp2_with fail
  refine (EQ.out _ _ _ Q7.out Q6.out).mono ?_
  rintro e w7 ⟨rfl, hb7⟩
  go_wp2_with fail
  go_ret
  exact ⟨rfl, X6.out.trans hb7⟩

end Go.Proofs.YtgpdnoghlommeaaDoor

namespace Go.Proofs.YtgpdnoghlommeaaDoor

open Go.RowKit Go.Deep Go.ChangeShapes Go.WideShapes

set_option maxRecDepth 100000

/-- So many of a family. -/
def build (g : Nat → Int × F) : Nat → Nat → F
  | _, 0 => .nil
  | i, n + 1 => .node 0 0 (g i).1 (g i).2 (build g (i + 1) n)
theorem len_build (g : Nat → Int × F) : ∀ i n, len (build g i n) = n
  | _, 0 => rfl
  | i, n + 1 => by simp [build, len, len_build g (i + 1) n]
theorem kid_build (g : Nat → Int × F) : ∀ i n j, j < n → kid (build g i n) j = (g (i + j)).2
  | _, 0, j, h => by omega
  | i, n + 1, 0, _ => rfl
  | i, n + 1, j + 1, h => by
    show kid (build g (i + 1) n) j = _
    rw [kid_build g (i + 1) n j (by omega)]; congr 2; omega
theorem num_build (g : Nat → Int × F) : ∀ i n j, j < n → num (build g i n) j = (g (i + j)).1
  | _, 0, j, h => by omega
  | i, n + 1, 0, _ => rfl
  | i, n + 1, j + 1, h => by
    show num (build g (i + 1) n) j = _
    rw [num_build g (i + 1) n j (by omega)]; congr 2; omega
theorem Lm_mk : ∀ {f : F}, (∀ j, j < len f → len (kid f j) ≤ 9223372036854775807 ∧ Lm (kid f j)) → Lm f
  | .nil, _ => trivial
  | .node _ _ _ k r, h => ⟨(h 0 (by simp [len])).1, (h 0 (by simp [len])).2, Lm_mk fun j hj => h (j + 1) (by simp only [len]; omega)⟩

end Go.Proofs.YtgpdnoghlommeaaDoor

namespace Go.Proofs.YtgpdnoghlommeaaDoor

open Go.ChangeShapes Go.WideShapes Go.ChangeAt Go.RowKit Go.Deep

set_option maxRecDepth 100000

/-- A list of numbers by value. -/
theorem open_intsV {H : Type} {enc : TypeId × Value → H} {W : World} {sp : Nat → Bool} {hd : Bool} {r : Reach} {b0 : Nat} {v : Value} {dd : DataW H} {p : List MemPlace} (hv : Value.okWide Tryd.prog W r b0 82 v) (h : DataW.Trod enc Tryd.prog W 0 sp hd 82 v dd p) :
    ∃ (xs : List Int) (a : Option Addr) (cap : Nat), v = .slice a xs.length cap ∧ PA W 0 xs a ∧ xs.length ≤ 9223372036854775807 := by
  obtain ⟨a, len, cap, rfl⟩ := okWide_slice Tryd.underlying82 hv
  obtain ⟨fuel, hf⟩ := h
  rcases open_ints Tryd.underlying82 Tryd.underlying3 (by kernel_rfl) hf with ⟨hcs, _⟩ | ⟨x, l, c, zs, hcs, _, hl, hm, hz, _, hcell, _⟩
  · simp [Value.cells] at hcs
    obtain ⟨rfl, rfl, rfl⟩ := hcs
    exact ⟨[], none, 0, rfl, Or.inl rfl, by simp⟩
  · simp [Value.cells] at hcs
    obtain ⟨rfl, rfl, rfl⟩ := hcs
    unfold maxLen at hm
    have hle : len ≤ zs.length := by rw [hz]; split <;> omega
    have htl : (zs.take len).length = len := by simp; omega
    refine ⟨zs.take len, some x, cap, by rw [htl], ?_, by omega⟩
    by_cases h0 : len = 0
    · exact Or.inl (by omega)
    · obtain ⟨b, o, s⟩ := x
      have h1 := hcell 0 (by omega)
      have hs : s = none := by simpa [Addr.add] using World.cell?_spot h1
      subst hs
      refine Or.inr ⟨b, o, rfl, Nat.zero_le _, fun i hi => ?_⟩
      have := hcell i (by omega)
      rw [add_plain] at this
      rw [this]
      simp [List.getD, List.getElem?_take_of_lt (show i < len by omega)]

end Go.Proofs.YtgpdnoghlommeaaDoor

namespace Go.Proofs.YtgpdnoghlommeaaDoor

open Go.RowKit Go.Deep Go.ChangeShapes Go.WideShapes Go.ChangeAt

set_option maxRecDepth 100000
theorem Tryd.cells82 : Tryd.prog.cellsOf 82 = 1 := by kernel_rfl
theorem Tryd.cells9 : Tryd.prog.cellsOf 9 = 1 := by kernel_rfl

/-- Cells that are a list of numbers. -/
theorem open_intsC {H : Type} {enc : TypeId × Value → H} {W : World} {sp : Nat → Bool} {hd : Bool} {fuel : Nat} {cs : List Value} {x : DataW H × List MemPlace} (hf : DataW.trod enc Tryd.prog W 0 sp hd fuel 82 cs = some x) :
    ∃ (xs : List Int) (a : Option Addr) (cap : Nat), cs = [.slice a xs.length cap] ∧ PA W 0 xs a ∧ xs.length ≤ 9223372036854775807 ∧ xs.length ≤ cap ∧ cap ≤ 9223372036854775807 := by
  rcases open_ints Tryd.underlying82 Tryd.underlying3 (by kernel_rfl) hf with ⟨hcs, _⟩ | ⟨x, len, cap, zs, hcs, _, hl, hm, hz, _, hcell, _⟩
  · exact ⟨[], none, 0, hcs, Or.inl rfl, by simp, by simp, by simp⟩
  · unfold maxLen at hm
    have hle : len ≤ zs.length := by rw [hz]; split <;> omega
    have htl : (zs.take len).length = len := by simp; omega
    refine ⟨zs.take len, some x, cap, by rw [htl]; exact hcs, ?_, by omega, by omega, by omega⟩
    by_cases h0 : len = 0
    · exact Or.inl (by omega)
    · obtain ⟨b, o, s⟩ := x
      have h1 := hcell 0 (by omega)
      have hs : s = none := by simpa [Addr.add] using World.cell?_spot h1
      subst hs
      refine Or.inr ⟨b, o, rfl, Nat.zero_le _, fun i hi => ?_⟩
      have := hcell i (by omega)
      rw [add_plain] at this
      rw [this]
      simp [List.getD, List.getElem?_take_of_lt (show i < len by omega)]

end Go.Proofs.YtgpdnoghlommeaaDoor

namespace Go.Proofs.YtgpdnoghlommeaaDoor

open Go.RowKit Go.Deep Go.ChangeShapes Go.WideShapes Go.ChangeAt

set_option maxRecDepth 100000

theorem Tryd.cells84 : Tryd.prog.cellsOf 84 = 5 := by kernel_rfl
theorem Tryd.cells32 : Tryd.prog.cellsOf 32 = 1 := by kernel_rfl
theorem Tryd.cells80 : Tryd.prog.cellsOf 80 = 8 := by kernel_rfl
theorem Tryd.cells31 : Tryd.prog.cellsOf 31 = 1 := by kernel_rfl
theorem Tryd.cells34 : Tryd.prog.cellsOf 34 = 2 := by kernel_rfl
theorem Tryd.cells36 : Tryd.prog.cellsOf 36 = 4 := by kernel_rfl
theorem Tryd.cells30 : Tryd.prog.cellsOf 30 = 1 := by kernel_rfl
theorem Tryd.cells3 : Tryd.prog.cellsOf 3 = 1 := by kernel_rfl

/-- Cells that are a list of texts. -/
theorem open_strsC {H : Type} {enc : TypeId × Value → H} {W : World} {sp : Nat → Bool} {hd : Bool} {fuel : Nat} {cs : List Value} {x : DataW H × List MemPlace} (hf : DataW.trod enc Tryd.prog W 0 sp hd fuel 30 cs = some x) :
    ∃ (xs : List ByteArray) (a : Option Addr) (cap : Nat), cs = [.slice a xs.length cap] ∧ XA W 0 xs a ∧ xs.length ≤ cap ∧ xs.length ≤ 9223372036854775807 ∧ XLm xs := by
  rcases open_strings Tryd.underlying30 Tryd.underlying9 (by kernel_rfl) hf with ⟨hcs, _⟩ | ⟨x, len, cap, zs, hcs, _, hl, hm, hz, _, hcell, hsz⟩
  · exact ⟨[], none, 0, hcs, Or.inl rfl, by simp, by simp, fun i hi => by simp at hi⟩
  · unfold maxLen at hm hsz
    have hle : len ≤ zs.length := by rw [hz]; split <;> omega
    have htl : (zs.take len).length = len := by simp; omega
    refine ⟨zs.take len, some x, cap, by rw [htl]; exact hcs, ?_, by omega, by omega, fun i hi => ?_⟩
    · by_cases h0 : len = 0
      · exact Or.inl (by omega)
      · obtain ⟨b, o, s⟩ := x
        have h1 := hcell 0 (by omega)
        have hs : s = none := by simpa [Addr.add] using World.cell?_spot h1
        subst hs
        refine Or.inr ⟨b, o, rfl, Nat.zero_le _, fun i hi => ?_⟩
        have := hcell i (by omega)
        rw [add_plain] at this
        rw [this]
        simp [List.getD, List.getElem?_take_of_lt (show i < len by omega), show i < zs.length by omega]
    · rw [htl] at hi
      have := hsz (zs.getD i ⟨#[]⟩) (by simp [List.getD, show i < zs.length by omega])
      simp only [List.getD] at this ⊢
      rw [List.getElem?_take_of_lt hi]
      exact this

/-- So many of a family. -/
def buildT (g : Nat → (Int × Int × ByteArray × List Int × TM)) : Nat → Nat → TM
  | _, 0 => .nil
  | i, n + 1 => .node 0 0 ((g i).1, (g i).2.1, (g i).2.2.1, (g i).2.2.2.1) (g i).2.2.2.2 (buildT g (i + 1) n)
theorem tlen_buildT (g : Nat → (Int × Int × ByteArray × List Int × TM)) : ∀ i n, tlen (buildT g i n) = n
  | _, 0 => rfl
  | i, n + 1 => by simp [buildT, tlen, tlen_buildT g (i + 1) n]
theorem tkind_buildT (g : Nat → (Int × Int × ByteArray × List Int × TM)) : ∀ i n j, j < n → tkind (buildT g i n) j = (g (i + j)).1
  | _, 0, j, h => by omega
  | i, n + 1, 0, _ => rfl
  | i, n + 1, j + 1, h => by
    show tkind (buildT g (i + 1) n) j = _
    rw [tkind_buildT g (i + 1) n j (by omega), show i + 1 + j = i + (j + 1) by omega]
theorem tnum_buildT (g : Nat → (Int × Int × ByteArray × List Int × TM)) : ∀ i n j, j < n → tnum (buildT g i n) j = (g (i + j)).2.1
  | _, 0, j, h => by omega
  | i, n + 1, 0, _ => rfl
  | i, n + 1, j + 1, h => by
    show tnum (buildT g (i + 1) n) j = _
    rw [tnum_buildT g (i + 1) n j (by omega), show i + 1 + j = i + (j + 1) by omega]
theorem tname_buildT (g : Nat → (Int × Int × ByteArray × List Int × TM)) : ∀ i n j, j < n → tname (buildT g i n) j = (g (i + j)).2.2.1
  | _, 0, j, h => by omega
  | i, n + 1, 0, _ => rfl
  | i, n + 1, j + 1, h => by
    show tname (buildT g (i + 1) n) j = _
    rw [tname_buildT g (i + 1) n j (by omega), show i + 1 + j = i + (j + 1) by omega]
theorem tpath_buildT (g : Nat → (Int × Int × ByteArray × List Int × TM)) : ∀ i n j, j < n → tpath (buildT g i n) j = (g (i + j)).2.2.2.1
  | _, 0, j, h => by omega
  | i, n + 1, 0, _ => rfl
  | i, n + 1, j + 1, h => by
    show tpath (buildT g (i + 1) n) j = _
    rw [tpath_buildT g (i + 1) n j (by omega), show i + 1 + j = i + (j + 1) by omega]
theorem tkid_buildT (g : Nat → (Int × Int × ByteArray × List Int × TM)) : ∀ i n j, j < n → tkid (buildT g i n) j = (g (i + j)).2.2.2.2
  | _, 0, j, h => by omega
  | i, n + 1, 0, _ => rfl
  | i, n + 1, j + 1, h => by
    show tkid (buildT g (i + 1) n) j = _
    rw [tkid_buildT g (i + 1) n j (by omega), show i + 1 + j = i + (j + 1) by omega]

theorem TLm_mk : ∀ {f : TM}, (∀ j, j < tlen f → (tname f j).size ≤ 9223372036854775807 ∧ (tpath f j).length ≤ 9223372036854775807 ∧ tlen (tkid f j) ≤ 9223372036854775807 ∧ TLm (tkid f j)) → TLm f
  | .nil, _ => trivial
  | .node _ _ (_, _, s, p) k r, h => ⟨(h 0 (by simp [tlen])).1, (h 0 (by simp [tlen])).2.1, (h 0 (by simp [tlen])).2.2.1, (h 0 (by simp [tlen])).2.2.2, TLm_mk fun j hj => h (j + 1) (by simp only [tlen]; omega)⟩

theorem open_terms {H : Type} {enc : TypeId × Value → H} {w : World} {sp : Nat → Bool} {hd : Bool} : ∀ (fuel : Nat) (cs : List Value) (x : DataW H × List MemPlace), DataW.trod enc Tryd.prog w 0 sp hd fuel 32 cs = some x →
    ∃ (f : TM) (a : Option Addr) (cap : Nat), cs = [.slice a (tlen f) cap] ∧ MA w 0 f a ∧ tlen f ≤ 9223372036854775807 ∧ TLm f := by
  intro fuel
  induction fuel using Nat.strongRecOn with
  | _ fuel ih =>
    intro cs x h
    rcases DataW.trod_slice Tryd.underlying32 h with ⟨rfl, _⟩ | ⟨a, n, cap, elems, rest, m, hfm, rfl, _, hb, hl, hm, hlen, hel, _, _⟩
    · exact ⟨.nil, none, 0, rfl, Or.inl rfl, by simp [tlen], trivial⟩
    · unfold maxLen at hm
      have hfam : ∀ i, i < n → ∃ g : (Int × Int × ByteArray × List Int × TM), ∃ pa pc a' cap', w.cell? ((a.add (i * 5)).add 0) = some (.int .i64 g.1) ∧ w.cell? ((a.add (i * 5)).add 1) = some (.int .i64 g.2.1) ∧ w.cell? ((a.add (i * 5)).add 2) = some (.string g.2.2.1) ∧ w.cell? ((a.add (i * 5)).add 3) = some (.slice pa g.2.2.2.1.length pc) ∧ w.cell? ((a.add (i * 5)).add 4) = some (.slice a' (tlen g.2.2.2.2) cap') ∧ PA w 0 g.2.2.2.1 pa ∧ MA w 0 g.2.2.2.2 a' ∧ g.2.2.1.size ≤ 9223372036854775807 ∧ g.2.2.2.1.length ≤ 9223372036854775807 ∧ tlen g.2.2.2.2 ≤ 9223372036854775807 ∧ TLm g.2.2.2.2 ∧ g.2.2.2.1.length ≤ pc ∧ pc ≤ 9223372036854775807 := by
        intro i hi
        have e := hel i hi
        rw [Tryd.cells84] at e
        have hi' : i < elems.length := by omega
        rw [List.getElem?_eq_getElem hi', Option.bind_eq_some_iff] at e
        obtain ⟨cs', h1, h2⟩ := e
        obtain ⟨_, hl1, hcc⟩ := World.cells?_some h1
        match cs', hl1 with
        | [u0, u1, u2, u3, u4], _ =>
          have hc0 := hcc 0 (by omega)
          have hc1 := hcc 1 (by omega)
          have hc2 := hcc 2 (by omega)
          have hc3 := hcc 3 (by omega)
          have hc4 := hcc 4 (by omega)
          obtain ⟨xs, k, hmk, _, _, hxl, hf⟩ := DataW.trod_struct Tryd.underlying84 h2
          have f0 : DataW.trod enc Tryd.prog w 0 sp hd k 3 (([u0, u1, u2, u3, u4].drop 0).take (Tryd.prog.cellsOf 3)) = xs[0]? := hf 0 _ rfl
          have f1 : DataW.trod enc Tryd.prog w 0 sp hd k 3 (([u0, u1, u2, u3, u4].drop 1).take (Tryd.prog.cellsOf 3)) = xs[1]? := hf 1 _ rfl
          have f2 : DataW.trod enc Tryd.prog w 0 sp hd k 9 (([u0, u1, u2, u3, u4].drop 2).take (Tryd.prog.cellsOf 9)) = xs[2]? := hf 2 _ rfl
          have f3 : DataW.trod enc Tryd.prog w 0 sp hd k 82 (([u0, u1, u2, u3, u4].drop 3).take (Tryd.prog.cellsOf 82)) = xs[3]? := hf 3 _ rfl
          have f4 : DataW.trod enc Tryd.prog w 0 sp hd k 32 (([u0, u1, u2, u3, u4].drop 4).take (Tryd.prog.cellsOf 32)) = xs[4]? := hf 4 _ rfl
          match xs, hxl with
          | [y0, y1, y2, y3, y4], _ =>
            rw [Tryd.cells3] at f0 f1
            rw [Tryd.cells9] at f2
            rw [Tryd.cells82] at f3
            rw [Tryd.cells32] at f4
            obtain ⟨k', e0, _, _⟩ := DataW.trod_int Tryd.underlying3 (cs := [u0]) (x := y0) (by simpa using f0)
            obtain ⟨n', e1, _, _⟩ := DataW.trod_int Tryd.underlying3 (cs := [u1]) (x := y1) (by simpa using f1)
            obtain ⟨s', e2, _, z2⟩ := DataW.trod_string Tryd.underlying9 (cs := [u2]) (x := y2) (by simpa using f2)
            obtain ⟨p', pa, pc, e3, z3, z4, z8⟩ := open_intsC (cs := [u3]) (x := y3) (by simpa using f3)
            obtain ⟨g, a', cap', e4, z5, z6, z7⟩ := ih k (by omega) [u4] y4 (by simpa using f4)
            simp only [List.cons.injEq, and_true] at e0 e1 e2 e3 e4
            exact ⟨(k', n', s', p', g), pa, pc, a', cap', by rw [hc0, e0]; rfl, by rw [hc1, e1]; rfl, by rw [hc2, e2]; rfl, by rw [hc3, e3]; rfl, by rw [hc4, e4]; rfl, z3, z5, z2, z4, z6, z7, z8⟩
      haveI : Inhabited (Int × Int × ByteArray × List Int × TM) := ⟨(0, 0, ⟨#[]⟩, [], .nil)⟩
      obtain ⟨g, hg⟩ := choose_lt hfam
      by_cases hn : n = 0
      · subst hn
        exact ⟨.nil, some a, cap, rfl, Or.inl rfl, by simp [tlen], trivial⟩
      · obtain ⟨b, o, spot⟩ := a
        obtain ⟨_, _, _, _, hc0, _⟩ := hg 0 (by omega)
        have hs : spot = none := by simpa [Addr.add] using World.cell?_spot hc0
        subst hs
        refine ⟨buildT g 0 n, some ⟨b, o, none⟩, cap, by rw [tlen_buildT], MS_mk (Nat.zero_le _) fun i hi => ?_, by rw [tlen_buildT]; omega, TLm_mk fun i hi => ?_⟩
        · rw [tlen_buildT] at hi
          obtain ⟨pa, pc, a', cap', e0, e1, e2, e3, e4, e5, e6, _, _, _, _, e8⟩ := hg i hi
          simp only [MT]
          rw [tkind_buildT g 0 n i hi, tnum_buildT g 0 n i hi, tname_buildT g 0 n i hi, tpath_buildT g 0 n i hi, tkid_buildT g 0 n i hi, Nat.zero_add]
          rw [add_plain, add_plain] at e0 e1 e2 e3 e4
          exact ⟨e0, e1, e2, ⟨pa, pc, e3, e5, e8⟩, a', cap', e4, e6⟩
        · rw [tlen_buildT] at hi
          obtain ⟨pa, pc, a', cap', _, _, _, _, _, _, _, e7, e8, e9, ea, _⟩ := hg i hi
          rw [tname_buildT g 0 n i hi, tpath_buildT g 0 n i hi, tkid_buildT g 0 n i hi, Nat.zero_add]
          exact ⟨e7, e8, e9, ea⟩

/-- So many of a family. -/
def buildB (g : Nat → (Int × List ByteArray × ByteArray × TM × BD × TM × BD × TM)) : Nat → Nat → BD
  | _, 0 => .nil
  | i, n + 1 => .node 0 0 ((g i).1, (g i).2.1, (g i).2.2.1, (g i).2.2.2.1, (g i).2.2.2.2.2.1, (g i).2.2.2.2.2.2.2) (g i).2.2.2.2.1 (.node 0 0 (0, [], ⟨#[]⟩, .nil, .nil, .nil) (g i).2.2.2.2.2.2.1 (buildB g (i + 1) n))
theorem blen_buildB (g : Nat → (Int × List ByteArray × ByteArray × TM × BD × TM × BD × TM)) : ∀ i n, blen (buildB g i n) = n
  | _, 0 => rfl
  | i, n + 1 => by simp [buildB, blen, blen_buildB g (i + 1) n]
theorem bkind_buildB (g : Nat → (Int × List ByteArray × ByteArray × TM × BD × TM × BD × TM)) : ∀ i n j, j < n → bkind (buildB g i n) j = (g (i + j)).1
  | _, 0, j, h => by omega
  | i, n + 1, 0, _ => rfl
  | i, n + 1, j + 1, h => by
    show bkind (buildB g (i + 1) n) j = _
    rw [bkind_buildB g (i + 1) n j (by omega), show i + 1 + j = i + (j + 1) by omega]
theorem bnames_buildB (g : Nat → (Int × List ByteArray × ByteArray × TM × BD × TM × BD × TM)) : ∀ i n j, j < n → bnames (buildB g i n) j = (g (i + j)).2.1
  | _, 0, j, h => by omega
  | i, n + 1, 0, _ => rfl
  | i, n + 1, j + 1, h => by
    show bnames (buildB g (i + 1) n) j = _
    rw [bnames_buildB g (i + 1) n j (by omega), show i + 1 + j = i + (j + 1) by omega]
theorem bfn_buildB (g : Nat → (Int × List ByteArray × ByteArray × TM × BD × TM × BD × TM)) : ∀ i n j, j < n → bfn (buildB g i n) j = (g (i + j)).2.2.1
  | _, 0, j, h => by omega
  | i, n + 1, 0, _ => rfl
  | i, n + 1, j + 1, h => by
    show bfn (buildB g (i + 1) n) j = _
    rw [bfn_buildB g (i + 1) n j (by omega), show i + 1 + j = i + (j + 1) by omega]
theorem bterms_buildB (g : Nat → (Int × List ByteArray × ByteArray × TM × BD × TM × BD × TM)) : ∀ i n j, j < n → bterms (buildB g i n) j = (g (i + j)).2.2.2.1
  | _, 0, j, h => by omega
  | i, n + 1, 0, _ => rfl
  | i, n + 1, j + 1, h => by
    show bterms (buildB g (i + 1) n) j = _
    rw [bterms_buildB g (i + 1) n j (by omega), show i + 1 + j = i + (j + 1) by omega]
theorem bthen_buildB (g : Nat → (Int × List ByteArray × ByteArray × TM × BD × TM × BD × TM)) : ∀ i n j, j < n → bthen (buildB g i n) j = (g (i + j)).2.2.2.2.1
  | _, 0, j, h => by omega
  | i, n + 1, 0, _ => rfl
  | i, n + 1, j + 1, h => by
    show bthen (buildB g (i + 1) n) j = _
    rw [bthen_buildB g (i + 1) n j (by omega), show i + 1 + j = i + (j + 1) by omega]
theorem btsay_buildB (g : Nat → (Int × List ByteArray × ByteArray × TM × BD × TM × BD × TM)) : ∀ i n j, j < n → btsay (buildB g i n) j = (g (i + j)).2.2.2.2.2.1
  | _, 0, j, h => by omega
  | i, n + 1, 0, _ => rfl
  | i, n + 1, j + 1, h => by
    show btsay (buildB g (i + 1) n) j = _
    rw [btsay_buildB g (i + 1) n j (by omega), show i + 1 + j = i + (j + 1) by omega]
theorem belse_buildB (g : Nat → (Int × List ByteArray × ByteArray × TM × BD × TM × BD × TM)) : ∀ i n j, j < n → belse (buildB g i n) j = (g (i + j)).2.2.2.2.2.2.1
  | _, 0, j, h => by omega
  | i, n + 1, 0, _ => rfl
  | i, n + 1, j + 1, h => by
    show belse (buildB g (i + 1) n) j = _
    rw [belse_buildB g (i + 1) n j (by omega), show i + 1 + j = i + (j + 1) by omega]
theorem besay_buildB (g : Nat → (Int × List ByteArray × ByteArray × TM × BD × TM × BD × TM)) : ∀ i n j, j < n → besay (buildB g i n) j = (g (i + j)).2.2.2.2.2.2.2
  | _, 0, j, h => by omega
  | i, n + 1, 0, _ => rfl
  | i, n + 1, j + 1, h => by
    show besay (buildB g (i + 1) n) j = _
    rw [besay_buildB g (i + 1) n j (by omega), show i + 1 + j = i + (j + 1) by omega]

theorem BLm_mk : ∀ {f : BD}, (∀ j, j < blen f → (bnames f j).length ≤ 9223372036854775807 ∧ XLm (bnames f j) ∧ (bfn f j).size ≤ 9223372036854775807 ∧ tlen (bterms f j) ≤ 9223372036854775807 ∧ TLm (bterms f j) ∧ blen (bthen f j) ≤ 9223372036854775807 ∧ BLm (bthen f j) ∧ tlen (btsay f j) ≤ 9223372036854775807 ∧ TLm (btsay f j) ∧ blen (belse f j) ≤ 9223372036854775807 ∧ BLm (belse f j) ∧ tlen (besay f j) ≤ 9223372036854775807 ∧ TLm (besay f j)) → BLm f
  | .nil, _ => trivial
  | .node _ _ _ _ .nil, _ => trivial
  | .node _ _ (_, ns, fn, ts, tz, ez) tb (.node _ _ _ eb r), h => by
    obtain ⟨h1, h2, h3, h4, h5, h6, h7, h8, h9, ha, hb, hc, hd⟩ := h 0 (by simp [blen])
    exact ⟨h1, h2, h3, h4, h5, h6, h7, h8, h9, ha, hb, hc, hd, BLm_mk fun j hj => h (j + 1) (by simp only [blen]; omega)⟩

/-- Cells that are a body, where its bindings are read by a smaller reader. -/
theorem open_bodyC {H : Type} {enc : TypeId × Value → H} {w : World} {sp : Nat → Bool} {hd : Bool} {fuel : Nat} {v0 v1 : Value} {x : DataW H × List MemPlace}
    (ih : ∀ k, k < fuel → ∀ (cs : List Value) (x : DataW H × List MemPlace), DataW.trod enc Tryd.prog w 0 sp hd k 31 cs = some x → ∃ (f : BD) (a : Option Addr) (cap : Nat), cs = [.slice a (blen f) cap] ∧ BA w 0 f a ∧ blen f ≤ 9223372036854775807 ∧ BLm f)
    (h : DataW.trod enc Tryd.prog w 0 sp hd fuel 34 [v0, v1] = some x) :
    ∃ (b : BD) (ba : Option Addr) (bc : Nat) (z : TM) (za : Option Addr) (zc : Nat), v0 = .slice ba (blen b) bc ∧ v1 = .slice za (tlen z) zc ∧ BA w 0 b ba ∧ MA w 0 z za ∧ blen b ≤ 9223372036854775807 ∧ BLm b ∧ tlen z ≤ 9223372036854775807 ∧ TLm z := by
  obtain ⟨xs, k, hmk, _, _, hxl, hf⟩ := DataW.trod_struct Tryd.underlying34 h
  have f0 : DataW.trod enc Tryd.prog w 0 sp hd k 31 (([v0, v1].drop 0).take (Tryd.prog.cellsOf 31)) = xs[0]? := hf 0 _ rfl
  have f1 : DataW.trod enc Tryd.prog w 0 sp hd k 32 (([v0, v1].drop 1).take (Tryd.prog.cellsOf 32)) = xs[1]? := hf 1 _ rfl
  match xs, hxl with
  | [y0, y1], _ =>
    rw [Tryd.cells31] at f0
    rw [Tryd.cells32] at f1
    obtain ⟨b, ba, bc, e0, z0, z1, z2⟩ := ih k (by omega) [v0] y0 (by simpa using f0)
    obtain ⟨z, za, zc, e1, z3, z4, z5⟩ := open_terms k [v1] y1 (by simpa using f1)
    simp only [List.cons.injEq, and_true] at e0 e1
    exact ⟨b, ba, bc, z, za, zc, e0, e1, z0, z3, z1, z2, z4, z5⟩

theorem open_binds {H : Type} {enc : TypeId × Value → H} {w : World} {sp : Nat → Bool} {hd : Bool} : ∀ (fuel : Nat) (cs : List Value) (x : DataW H × List MemPlace), DataW.trod enc Tryd.prog w 0 sp hd fuel 31 cs = some x →
    ∃ (f : BD) (a : Option Addr) (cap : Nat), cs = [.slice a (blen f) cap] ∧ BA w 0 f a ∧ blen f ≤ 9223372036854775807 ∧ BLm f := by
  intro fuel
  induction fuel using Nat.strongRecOn with
  | _ fuel ih =>
    intro cs x h
    rcases DataW.trod_slice Tryd.underlying31 h with ⟨rfl, _⟩ | ⟨a, n, cap, elems, rest, m, hfm, rfl, _, hb, hl, hm, hlen, hel, _, _⟩
    · exact ⟨.nil, none, 0, rfl, Or.inl rfl, by simp [blen], trivial⟩
    · unfold maxLen at hm
      have hfam : ∀ i, i < n → ∃ g : (Int × List ByteArray × ByteArray × TM × BD × TM × BD × TM), ∃ a1 k1 a3 k3 a4 k4 a5 k5 a6 k6 a7 k7, w.cell? ((a.add (i * 8)).add 0) = some (.int .i64 g.1) ∧ w.cell? ((a.add (i * 8)).add 1) = some (.slice a1 g.2.1.length k1) ∧ w.cell? ((a.add (i * 8)).add 2) = some (.string g.2.2.1) ∧ w.cell? ((a.add (i * 8)).add 3) = some (.slice a3 (tlen g.2.2.2.1) k3) ∧ w.cell? ((a.add (i * 8)).add 4) = some (.slice a4 (blen g.2.2.2.2.1) k4) ∧ w.cell? ((a.add (i * 8)).add 5) = some (.slice a5 (tlen g.2.2.2.2.2.1) k5) ∧ w.cell? ((a.add (i * 8)).add 6) = some (.slice a6 (blen g.2.2.2.2.2.2.1) k6) ∧ w.cell? ((a.add (i * 8)).add 7) = some (.slice a7 (tlen g.2.2.2.2.2.2.2) k7) ∧
          (g.2.1.length ≤ k1 ∧ XA w 0 g.2.1 a1 ∧ MA w 0 g.2.2.2.1 a3 ∧ BA w 0 g.2.2.2.2.1 a4 ∧ MA w 0 g.2.2.2.2.2.1 a5 ∧ BA w 0 g.2.2.2.2.2.2.1 a6 ∧ MA w 0 g.2.2.2.2.2.2.2 a7) ∧
          (g.2.1.length ≤ 9223372036854775807 ∧ XLm g.2.1 ∧ g.2.2.1.size ≤ 9223372036854775807 ∧ tlen g.2.2.2.1 ≤ 9223372036854775807 ∧ TLm g.2.2.2.1 ∧ blen g.2.2.2.2.1 ≤ 9223372036854775807 ∧ BLm g.2.2.2.2.1 ∧ tlen g.2.2.2.2.2.1 ≤ 9223372036854775807 ∧ TLm g.2.2.2.2.2.1 ∧ blen g.2.2.2.2.2.2.1 ≤ 9223372036854775807 ∧ BLm g.2.2.2.2.2.2.1 ∧ tlen g.2.2.2.2.2.2.2 ≤ 9223372036854775807 ∧ TLm g.2.2.2.2.2.2.2) := by
        intro i hi
        have e := hel i hi
        rw [Tryd.cells80] at e
        have hi' : i < elems.length := by omega
        rw [List.getElem?_eq_getElem hi', Option.bind_eq_some_iff] at e
        obtain ⟨cs', h1, h2⟩ := e
        obtain ⟨_, hl1, hcc⟩ := World.cells?_some h1
        match cs', hl1 with
        | [u0, u1, u2, u3, u4, u5, u6, u7], _ =>
          have hc0 := hcc 0 (by omega)
          have hc1 := hcc 1 (by omega)
          have hc2 := hcc 2 (by omega)
          have hc3 := hcc 3 (by omega)
          have hc4 := hcc 4 (by omega)
          have hc5 := hcc 5 (by omega)
          have hc6 := hcc 6 (by omega)
          have hc7 := hcc 7 (by omega)
          obtain ⟨xs, k, hmk, _, _, hxl, hf⟩ := DataW.trod_struct Tryd.underlying80 h2
          have f0 : DataW.trod enc Tryd.prog w 0 sp hd k 3 (([u0, u1, u2, u3, u4, u5, u6, u7].drop 0).take (Tryd.prog.cellsOf 3)) = xs[0]? := hf 0 _ rfl
          have f1 : DataW.trod enc Tryd.prog w 0 sp hd k 30 (([u0, u1, u2, u3, u4, u5, u6, u7].drop 1).take (Tryd.prog.cellsOf 30)) = xs[1]? := hf 1 _ rfl
          have f2 : DataW.trod enc Tryd.prog w 0 sp hd k 9 (([u0, u1, u2, u3, u4, u5, u6, u7].drop 2).take (Tryd.prog.cellsOf 9)) = xs[2]? := hf 2 _ rfl
          have f3 : DataW.trod enc Tryd.prog w 0 sp hd k 32 (([u0, u1, u2, u3, u4, u5, u6, u7].drop 3).take (Tryd.prog.cellsOf 32)) = xs[3]? := hf 3 _ rfl
          have f4 : DataW.trod enc Tryd.prog w 0 sp hd k 34 (([u0, u1, u2, u3, u4, u5, u6, u7].drop 4).take (Tryd.prog.cellsOf 34)) = xs[4]? := hf 4 _ rfl
          have f5 : DataW.trod enc Tryd.prog w 0 sp hd k 34 (([u0, u1, u2, u3, u4, u5, u6, u7].drop 6).take (Tryd.prog.cellsOf 34)) = xs[5]? := hf 5 _ rfl
          match xs, hxl with
          | [y0, y1, y2, y3, y4, y5], _ =>
            rw [Tryd.cells3] at f0
            rw [Tryd.cells30] at f1
            rw [Tryd.cells9] at f2
            rw [Tryd.cells32] at f3
            rw [Tryd.cells34] at f4 f5
            obtain ⟨k', e0, _, _⟩ := DataW.trod_int Tryd.underlying3 (cs := [u0]) (x := y0) (by simpa using f0)
            obtain ⟨nm, a1, k1, e1, z1, z1c, z1l, z1x⟩ := open_strsC (cs := [u1]) (x := y1) (by simpa using f1)
            obtain ⟨s', e2, _, z2⟩ := DataW.trod_string Tryd.underlying9 (cs := [u2]) (x := y2) (by simpa using f2)
            obtain ⟨ts, a3, k3, e3, z3, z3l, z3m⟩ := open_terms k [u3] y3 (by simpa using f3)
            obtain ⟨tb, a4, k4, tz, a5, k5, e4, e5, z4, z5, z4l, z4m, z5l, z5m⟩ := open_bodyC (fuel := k) (v0 := u4) (v1 := u5) (x := y4) (fun k2 hk2 => ih k2 (by omega)) (by simpa using f4)
            obtain ⟨eb, a6, k6, ez, a7, k7, e6, e7, z6, z7, z6l, z6m, z7l, z7m⟩ := open_bodyC (fuel := k) (v0 := u6) (v1 := u7) (x := y5) (fun k2 hk2 => ih k2 (by omega)) (by simpa using f5)
            simp only [List.cons.injEq, and_true] at e0 e1 e2 e3
            exact ⟨(k', nm, s', ts, tb, tz, eb, ez), a1, k1, a3, k3, a4, k4, a5, k5, a6, k6, a7, k7, by rw [hc0, e0]; rfl, by rw [hc1, e1]; rfl, by rw [hc2, e2]; rfl, by rw [hc3, e3]; rfl, by rw [hc4, e4]; rfl, by rw [hc5, e5]; rfl, by rw [hc6, e6]; rfl, by rw [hc7, e7]; rfl, ⟨z1c, z1, z3, z4, z5, z6, z7⟩, ⟨z1l, z1x, z2, z3l, z3m, z4l, z4m, z5l, z5m, z6l, z6m, z7l, z7m⟩⟩
      haveI : Inhabited (Int × List ByteArray × ByteArray × TM × BD × TM × BD × TM) := ⟨(0, [], ⟨#[]⟩, .nil, .nil, .nil, .nil, .nil)⟩
      obtain ⟨g, hg⟩ := choose_lt hfam
      by_cases hn : n = 0
      · subst hn
        exact ⟨.nil, some a, cap, rfl, Or.inl rfl, by simp [blen], trivial⟩
      · obtain ⟨b, o, spot⟩ := a
        obtain ⟨_, _, _, _, _, _, _, _, _, _, _, _, hc0, _⟩ := hg 0 (by omega)
        have hs : spot = none := by simpa [Addr.add] using World.cell?_spot hc0
        subst hs
        refine ⟨buildB g 0 n, some ⟨b, o, none⟩, cap, by rw [blen_buildB], BS_mk (Nat.zero_le _) fun i hi => ?_, by rw [blen_buildB]; omega, BLm_mk fun i hi => ?_⟩
        · rw [blen_buildB] at hi
          obtain ⟨a1, k1, a3, k3, a4, k4, a5, k5, a6, k6, a7, k7, e0, e1, e2, e3, e4, e5, e6, e7, ⟨m0, m1, m3, m4, m5, m6, m7⟩, _⟩ := hg i hi
          simp only [BT8]
          rw [bkind_buildB g 0 n i hi, bnames_buildB g 0 n i hi, bfn_buildB g 0 n i hi, bterms_buildB g 0 n i hi, bthen_buildB g 0 n i hi, btsay_buildB g 0 n i hi, belse_buildB g 0 n i hi, besay_buildB g 0 n i hi, Nat.zero_add]
          rw [add_plain, add_plain] at e0 e1 e2 e3 e4 e5 e6 e7
          exact ⟨e0, ⟨a1, k1, e1, m0, m1⟩, e2, ⟨a3, k3, e3, m3⟩, ⟨a4, k4, e4, m4⟩, ⟨a5, k5, e5, m5⟩, ⟨a6, k6, e6, m6⟩, ⟨a7, k7, e7, m7⟩⟩
        · rw [blen_buildB] at hi
          obtain ⟨a1, k1, a3, k3, a4, k4, a5, k5, a6, k6, a7, k7, _, _, _, _, _, _, _, _, _, hm⟩ := hg i hi
          rw [bnames_buildB g 0 n i hi, bfn_buildB g 0 n i hi, bterms_buildB g 0 n i hi, bthen_buildB g 0 n i hi, btsay_buildB g 0 n i hi, belse_buildB g 0 n i hi, besay_buildB g 0 n i hi, Nat.zero_add]
          exact hm

/-- Functions that come in. -/
theorem open_puresV {H : Type} {enc : TypeId × Value → H} {w : World} {sp : Nat → Bool} {hd : Bool} {r : Reach} {b0 : Nat} {v : Value} {dd : DataW H} {p : List MemPlace} (hv : Value.okWide Tryd.prog w r b0 22 v) (h : DataW.Trod enc Tryd.prog w 0 sp hd 22 v dd p) :
    ∃ (l : List PM) (a : Option Addr) (cap : Nat), v = .slice a l.length cap ∧ QA w 0 l a ∧ l.length ≤ 9223372036854775807 ∧ (∀ j, j < l.length → PLm (l.getD j pm0)) ∧ l.length ≤ cap := by
  obtain ⟨a, n, cap, rfl⟩ := okWide_slice Tryd.underlying22 hv
  obtain ⟨fuel, hf⟩ := h
  rcases DataW.trod_slice Tryd.underlying22 hf with ⟨hcs, _⟩ | ⟨a, n, cap, elems, rest, m, hfm, hcs, _, hb, hl, hm, hlen, hel, _, _⟩
  · simp [Value.cells] at hcs
    obtain ⟨rfl, rfl, rfl⟩ := hcs
    exact ⟨[], none, 0, rfl, Or.inl rfl, by simp, fun j hj => by simp at hj, by simp⟩
  · simp [Value.cells] at hcs
    obtain ⟨rfl, rfl, rfl⟩ := hcs
    unfold maxLen at hm
    have hfam : ∀ i, i < n → ∃ g : PM, ∃ a1 k1 a2 k2 a3 k3, w.cell? ((a.add (i * 4)).add 0) = some (.string g.name) ∧ w.cell? ((a.add (i * 4)).add 1) = some (.slice a1 g.params.length k1) ∧ w.cell? ((a.add (i * 4)).add 2) = some (.slice a2 (blen g.binds) k2) ∧ w.cell? ((a.add (i * 4)).add 3) = some (.slice a3 (tlen g.says) k3) ∧ (g.params.length ≤ k1 ∧ XA w 0 g.params a1 ∧ BA w 0 g.binds a2 ∧ MA w 0 g.says a3) ∧ PLm g := by
      intro i hi
      have e := hel i hi
      rw [Tryd.cells36] at e
      have hi' : i < elems.length := by omega
      rw [List.getElem?_eq_getElem hi', Option.bind_eq_some_iff] at e
      obtain ⟨cs', h1, h2⟩ := e
      obtain ⟨_, hl1, hcc⟩ := World.cells?_some h1
      match cs', hl1 with
      | [u0, u1, u2, u3], _ =>
        have hc0 := hcc 0 (by omega)
        have hc1 := hcc 1 (by omega)
        have hc2 := hcc 2 (by omega)
        have hc3 := hcc 3 (by omega)
        obtain ⟨xs, k, hmk, _, _, hxl, hff⟩ := DataW.trod_struct Tryd.underlying36 h2
        have f0 : DataW.trod enc Tryd.prog w 0 sp hd k 9 (([u0, u1, u2, u3].drop 0).take (Tryd.prog.cellsOf 9)) = xs[0]? := hff 0 _ rfl
        have f1 : DataW.trod enc Tryd.prog w 0 sp hd k 30 (([u0, u1, u2, u3].drop 1).take (Tryd.prog.cellsOf 30)) = xs[1]? := hff 1 _ rfl
        have f2 : DataW.trod enc Tryd.prog w 0 sp hd k 34 (([u0, u1, u2, u3].drop 2).take (Tryd.prog.cellsOf 34)) = xs[2]? := hff 2 _ rfl
        match xs, hxl with
        | [y0, y1, y2], _ =>
          rw [Tryd.cells9] at f0
          rw [Tryd.cells30] at f1
          rw [Tryd.cells34] at f2
          obtain ⟨s', e0, _, z0⟩ := DataW.trod_string Tryd.underlying9 (cs := [u0]) (x := y0) (by simpa using f0)
          obtain ⟨nm, a1, k1, e1, z1, z1c, z1l, z1x⟩ := open_strsC (cs := [u1]) (x := y1) (by simpa using f1)
          obtain ⟨tb, a4, k4, tz, a5, k5, e2, e3, z4, z5, z4l, z4m, z5l, z5m⟩ := open_bodyC (fuel := k) (v0 := u2) (v1 := u3) (x := y2) (fun k2 _ => open_binds k2) (by simpa using f2)
          simp only [List.cons.injEq, and_true] at e0 e1
          exact ⟨⟨s', nm, tb, tz⟩, a1, k1, a4, k4, a5, k5, by rw [hc0, e0]; rfl, by rw [hc1, e1]; rfl, by rw [hc2, e2]; rfl, by rw [hc3, e3]; rfl, ⟨z1c, z1, z4, z5⟩, ⟨z0, z1l, z1x, z4l, z4m, z5l, z5m⟩⟩
    haveI : Inhabited PM := ⟨pm0⟩
    obtain ⟨g, hg⟩ := choose_lt hfam
    have hgl : ((List.range n).map g).length = n := by simp
    have hgg : ∀ i, i < n → ((List.range n).map g).getD i pm0 = g i := fun i hi => by simp [List.getD, hi]
    by_cases hn : n = 0
    · subst hn
      exact ⟨[], some a, cap, rfl, Or.inl rfl, by simp, fun j hj => by simp at hj, by simp⟩
    · obtain ⟨b, o, spot⟩ := a
      obtain ⟨_, _, _, _, _, _, hc0, _⟩ := hg 0 (by omega)
      have hs : spot = none := by simpa [Addr.add] using World.cell?_spot hc0
      subst hs
      refine ⟨(List.range n).map g, some ⟨b, o, none⟩, cap, by rw [hgl], Or.inr ⟨b, o, rfl, Nat.zero_le _, fun i hi => ?_⟩, by rw [hgl]; omega, fun i hi => ?_, by rw [hgl]; omega⟩
      · rw [hgl] at hi
        obtain ⟨a1, k1, a2, k2, a3, k3, e0, e1, e2, e3, ⟨m0, m1, m2, m3⟩, _⟩ := hg i hi
        rw [hgg i hi]
        rw [add_plain, add_plain] at e0 e1 e2 e3
        exact ⟨e0, ⟨a1, k1, e1, m0, m1⟩, ⟨a2, k2, e2, m2⟩, ⟨a3, k3, e3, m3⟩⟩
      · rw [hgl] at hi
        obtain ⟨_, _, _, _, _, _, _, _, _, _, _, hm⟩ := hg i hi
        rw [hgg i hi]
        exact hm

end Go.Proofs.YtgpdnoghlommeaaDoor
