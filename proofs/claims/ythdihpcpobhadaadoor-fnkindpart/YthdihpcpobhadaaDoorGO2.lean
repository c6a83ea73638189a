/- The law on kinds of terms and their parts, walked. The law on parts of terms, walked. A type that comes in, opened. What an argument that is a list of numbers is. -/
import Derived.Test.YthdihpcpobhadaaDoorGE2
import Derived.Test.YthdihpcpobhadaaDoorGBD4
import Derived.Test.YthdihpcpobhadaaDoorDT3
import Derived.Test.YthdihpcpobhadaaDoorGD4
import Derived.Test.YthdihpcpobhadaaDoorGKT1
import Derived.Deep.Slices
import Derived.Test.YthdihpcpobhadaaDoorGTM1
import Derived.WalkKit
import Derived.ProofKit
import Derived.OpenShut
namespace Go.Proofs.YthdihpcpobhadaaDoor

open Go.RowKit Go.Deep

attribute [local go_sem ↓] Go.wp_at_zero Go.wp_at_succ

theorem termB_up {ns : List ByteArray} : ∀ (d : Nat) {k n : Int} {s : ByteArray} {p : List Int} {f : TM}, termB ns d k n s p f = true → termB ns (d + 1) k n s p f = true
  | 0, _, _, _, _, _, h => by simp [termB] at h
  | d + 1, k, n, s, p, f, h => by
    rw [termB] at h ⊢
    simp only [Bool.and_eq_true, List.all_eq_true, List.mem_range] at h ⊢
    exact ⟨h.1, fun i hi => termB_up d (h.2.1 i hi), h.2.2⟩

theorem kindR_yes {ns : List ByteArray} {tl : F} {k n : Int} {s : ByteArray} {p : List Int} {f : TM} (h : (kindR ns tl k n s p f).2 = true) :
    ns.length = len tl ∧ namesB ns = true ∧ fitAll tl = true ∧ termB ns 8 k n s p f = true ∧ oneT (setAll (fun _ => .nil) ns tl ns.length) k s p (evT (setAll (fun _ => .nil) ns tl ns.length) f) = some (kindR ns tl k n s p f).1 := by
  unfold kindR at h ⊢
  split at h
  · rename_i hc
    rw [if_pos hc]
    simp only [Bool.and_eq_true, decide_eq_true_eq] at hc
    refine ⟨hc.1, hc.2.1, hc.2.2.1, hc.2.2.2, ?_⟩
    cases hO : oneT (setAll (fun _ => .nil) ns tl ns.length) k s p (evT (setAll (fun _ => .nil) ns tl ns.length) f) with
    | none => rw [hO] at h; cases h
    | some g => rfl
  · cases h

/-- What a term of a type is made of is of a type. -/
theorem kindR_kid {ns : List ByteArray} {tl : F} {k n : Int} {s : ByteArray} {p : List Int} {f : TM} (h : (kindR ns tl k n s p f).2 = true) (i : Nat) (hi : i < tlen f) : (kindR ns tl (tkind f i) (tnum f i) (tname f i) (tpath f i) (tkid f i)).2 = true := by
  obtain ⟨h1, h2, h3, h4, h5⟩ := kindR_yes h
  have hk : termB ns 8 (tkind f i) (tnum f i) (tname f i) (tpath f i) (tkid f i) = true := by
    refine termB_up 7 ?_
    rw [termB] at h4
    simp only [Bool.and_eq_true, List.all_eq_true, List.mem_range] at h4
    exact h4.2.1 i hi
  cases hE : evT (setAll (fun _ => .nil) ns tl ns.length) f with
  | none => rw [hE] at h5; cases h5
  | some l =>
    have hA := evT_at hE hi
    rw [kindR_ok h1 h2 h3 hk]
    show (typeR (evTAt _ f i)).2 = true
    rw [hA]
    rfl

/-- What is told of a term, its two parts apart. -/
def KtQ (r : F) (ok : Bool) (w : World) (e : Ending) (w' : World) : Prop := ∃ a' c', e = .returned (.tuple #[.agg #[.slice a' (len r) c'], .bool ok]) ∧ TA w' w.heap.size r a' ∧ Ex w w'

set_option maxRecDepth 100000 in
set_option maxHeartbeats 4000000 in
theorem lawKindTerm (ea eb : Addr) (n cc : Nat) (ca : Option Addr) (w : World) (hG : Two ea eb w) (hn : n ≤ cc) (hc : cc ≤ 9223372036854775807) (hB : By w n ca) :
    Calls Tryd.prog 3 #[.slice ca n cc] w fun e w' => e = .returned (.bool true) ∧ Ex w w' := by
  have B : Hid (By w n ca) := hB
  have G : Hid (∀ w', Ex w w' → Two ea eb w') := fun w' h => hG.ex h
  clear hB hG
  by_cases hbig : 1048576 < n
  · have d1 : decide ((1048576 : Int) < (n : Int)) = true := by simp; omega
    go_enter Tryd.func3, Tryd.ntmps3
    go_wp2_with fail
    go_ret
    exact ⟨rfl, Ex.refl _⟩
  have d1 : decide ((1048576 : Int) < (n : Int)) = false := by simp; omega
  go_enter Tryd.func3, Tryd.ntmps3
  go_wp2_with fail
  refine Calls.mono (DrawKindTerm_any n cc ca _ hn hc B.out) ?_
  rintro e w1 ⟨ns, na, tl, ta, tc, k, nn, s, x, xa, xc, f, fa, fc, rfl, hns, hX, hT, hTl, htc, htc2, hP, hxc, hM, hS, hx1⟩
  have hnl : ns.length = 3 := by rcases hns with rfl | rfl <;> rfl
  have hz : XLm ns := by
    intro i hi
    rcases hns with rfl | rfl
    all_goals
      have h3 : i = 0 ∨ i = 1 ∨ i = 2 := by have : i < 3 := hi; omega
      rcases h3 with rfl | rfl | rfl <;> (show (1 : Nat) ≤ _; omega)
  obtain ⟨W, hW⟩ : ∃ W, W = w1.alloc (.cells #[.int .i64 k, .int .i64 nn, .string s, .slice xa x.length xc, .slice fa (tlen f) fc] 28) := ⟨_, rfl⟩
  have X1 : Hid (Ex w1 W) := hW ▸ Ex.new _ _
  have XW : Hid (Ex w W) := hx1.trans X1.out
  have HW : Hid (w1.alloc (.cells #[.int .i64 k, .int .i64 nn, .string s, .slice xa x.length xc, .slice fa (tlen f) fc] 28) = W) := hW.symm
  have C : Hid (∀ w', Ex W w' → w'.cell? ⟨w1.heap.size, 0, none⟩ = some (.int .i64 k) ∧ w'.cell? ⟨w1.heap.size, 1, none⟩ = some (.int .i64 nn) ∧ w'.cell? ⟨w1.heap.size, 2, none⟩ = some (.string s) ∧ w'.cell? ⟨w1.heap.size, 3, none⟩ = some (.slice xa x.length xc) ∧ w'.cell? ⟨w1.heap.size, 4, none⟩ = some (.slice fa (tlen f) fc)) := fun w' h => ⟨h.at (hW ▸ (by simp)), h.at (hW ▸ (by simp)), h.at (hW ▸ (by simp)), h.at (hW ▸ (by simp)), h.at (hW ▸ (by simp))⟩
  have XN : Hid (∀ w', Ex W w' → XA w' 0 ns na) := fun w' h => XA_lo (XA_below hX (X1.out.trans h)) (Nat.zero_le _)
  have TN : Hid (∀ w', Ex W w' → TA w' 0 tl ta) := fun w' h => TA_lo (TA_below hT (X1.out.trans h)) (Nat.zero_le _)
  have PN : Hid (∀ w', Ex W w' → PA w' 0 x xa) := fun w' h => PA_lo (PA_below hP (X1.out.trans h)) (Nat.zero_le _)
  have MN : Hid (∀ w', Ex W w' → MA w' 0 f fa) := fun w' h => MA_lo (MA_below hM (X1.out.trans h)) (Nat.zero_le _)
  have htl : len tl ≤ 1000000000 := by have := hTl.1; omega
  have SK : Hid (∀ w', Ex W w' → Calls Tryd.prog 8 #[.slice na ns.length 3, .slice ta (len tl) tc, .agg #[.int .i64 k, .int .i64 nn, .string s, .slice xa x.length xc, .slice fa (tlen f) fc]] w' (KtP (kindR ns tl k nn s x f) w')) := fun w' h => by
    have := sKindTerm_any ns na 3 tl ta tc k nn s x xa xc f fa fc w' (XN.out _ h) (by omega) (by omega) (TN.out _ h) (by have := hS.path; omega) (PN.out _ h) (MN.out _ h) (by have := hS.kids; omega) hS.sm
    exact this
  have IK : Hid (∀ w', Ex W w' → Calls Tryd.prog 9 #[.slice na ns.length 3, .slice ta (len tl) tc, .agg #[.int .i64 k, .int .i64 nn, .string s, .slice xa x.length xc, .slice fa (tlen f) fc]] w' (KtP (kindR ns tl k nn s x f) w')) := fun w' h => by
    have := iKindTerm_any ea eb ns na 3 tl ta tc k nn s x xa xc f fa fc w' (G.out _ (XW.out.trans h)) (XN.out _ h) hz (by omega) (TN.out _ h) htl (by have := hS.name; omega) (by have := hS.path; omega) (PN.out _ h) (MN.out _ h) (by have := hS.kids; omega) hS.sm hS.lm
    exact this
  have IJ : Hid ((kindR ns tl k nn s x f).2 = true → ∀ w' i pa' pc' a' c', Ex W w' → i < tlen f → PA w' 0 (tpath f i) pa' → MA w' 0 (tkid f i) a' → Calls Tryd.prog 9 #[.slice na ns.length 3, .slice ta (len tl) tc, .agg #[.int .i64 (tkind f i), .int .i64 (tnum f i), .string (tname f i), .slice pa' (tpath f i).length pc', .slice a' (tlen (tkid f i)) c']] w' fun e w'' => ∃ (g : F) (a'' : Option Addr) (c'' : Nat), e = .returned (.tuple #[.agg #[.slice a'' (len g) c''], .bool true]) ∧ Ex w' w'') := fun hok w' i pa' pc' a' c' h hi hp hm => by
    obtain ⟨h1, h2, h3, h4, _⟩ := kindR_yes hok
    have hk := kindR_kid hok i hi
    obtain ⟨_, _, _, hk4, _⟩ := kindR_yes hk
    obtain ⟨q1, q2, q3⟩ := TSm_kid hS.sm i hi
    obtain ⟨q4, _, _, q5⟩ := TLm_at hS.lm i hi
    have hk2 : tlen (tkid f i) ≤ 2 := by
      rw [termB] at hk4
      simp only [Bool.and_eq_true, decide_eq_true_eq] at hk4
      exact hk4.1.1
    have := iKindTerm_any ea eb ns na 3 tl ta tc (tkind f i) (tnum f i) (tname f i) (tpath f i) pa' pc' (tkid f i) a' c' w' (G.out _ (XW.out.trans h)) (XN.out _ h) hz (by omega) (TN.out _ h) htl q4 q1 hp hm (by omega) q3 q5

    refine this.mono ?_
    rintro e w'' ⟨a'', c'', rfl, _, hb⟩
    exact ⟨_, a'', c'', by rw [hk], hb⟩
  have FT : Hid (fits 4 (kindR ns tl k nn s x f).1 = true) := kindR_fits
  obtain ⟨R, hR⟩ : ∃ R, R = kindR ns tl k nn s x f := ⟨_, rfl⟩
  rw [← hR] at SK IK IJ FT
  clear hR
  obtain ⟨r, ok⟩ := R
  simp only at FT IJ
  have SQ : Hid (∀ w', Ex W w' → Calls Tryd.prog 8 #[.slice na ns.length 3, .slice ta (len tl) tc, .agg #[.int .i64 k, .int .i64 nn, .string s, .slice xa x.length xc, .slice fa (tlen f) fc]] w' (KtQ r ok w')) := fun w' h => SK.out w' h
  have IQ : Hid (∀ w', Ex W w' → Calls Tryd.prog 9 #[.slice na ns.length 3, .slice ta (len tl) tc, .agg #[.int .i64 k, .int .i64 nn, .string s, .slice xa x.length xc, .slice fa (tlen f) fc]] w' (KtQ r ok w')) := fun w' h => IK.out w' h
  clear SK IK
  have EV : Hid (∀ w' a' c' a'' c'', TA w' 0 r a' → TA w' 0 r a'' → Calls Tryd.prog 10 #[.agg #[.slice a' (len r) c'], .agg #[.slice a'' (len r) c'']] w' fun e w'' => e = .returned (.bool true) ∧ Ex w' w'') := fun w' a' c' a'' c'' h h' => by
    have := lhType_any (dep r + 1) r r a' a'' c' c'' 0 0 w' (by omega) (by have := (fits_sm _ _ FT.out).1; omega) (fits_sm _ _ FT.out).2 h h'
    rw [eqT_refl] at this; exact this
  have OKT : Hid (∀ w' a' c', TA w' 0 r a' → Calls Tryd.prog 11 #[.agg #[.slice a' (len r) c']] w' fun e w'' => e = .returned (.bool true) ∧ Ex w' w'') := fun w' a' c' h => by
    have := iTypeOk_any r a' c' 0 w' h
    rw [FT.out] at this; exact this
  have zW : w1.heap.size < W.heap.size := by rw [hW]; simp
  have hkids : tlen f ≤ 2 := hS.kids
  clear hW hX hT hP hM hS hTl htl hxc hz hnl hns hx1
  go_wp2_with fail
  rw [HW.out]
  refine Calls.mono (SQ.out _ (Ex.refl _)) ?_
  rintro e w2 ⟨a2, c2, rfl, ht2, hb2⟩
  have T2 : Hid (∀ w', Ex w2 w' → TA w' 0 r a2) := fun w' h => TA_lo (TA_below ht2 h) (Nat.zero_le _)
  have x2 : Hid (Ex W w2) := hb2
  obtain ⟨q0, q1, q2, q3, q4⟩ := C.out w2 hb2
  have z2 : w1.heap.size < w2.heap.size := by have := hb2.size; omega
  clear ht2 hb2
  go_wp2_with fail
  refine Calls.mono (IQ.out _ (x2.out.trans (Ex.new _ _))) ?_
  rintro e w3 ⟨a3, c3, rfl, ht3, hb3⟩
  have T3 : Hid (∀ w', Ex w3 w' → TA w' 0 r a3) := fun w' h => TA_lo (TA_below ht3 h) (Nat.zero_le _)
  have X3 : Hid (Ex w2 w3) := (Ex.new _ _).trans hb3
  have Q2 : Hid (∀ w', Ex w3 w' → w'.cell? ⟨w2.heap.size, 0, none⟩ = some (.slice a2 (len r) c2)) := fun w' h => h.at (hb3.at (by simp))
  have z3 : w2.heap.size < w3.heap.size := World.block_lt_of_cell? _ _ (Q2.out _ (Ex.refl _))
  obtain ⟨W3, hW3⟩ : ∃ W3, W3 = w3.alloc (.cells #[.slice a3 (len r) c3] 32) := ⟨_, rfl⟩
  have HW3 : Hid (w3.alloc (.cells #[.slice a3 (len r) c3] 32) = W3) := hW3.symm
  have X4 : Hid (Ex w3 W3) := hW3 ▸ Ex.new _ _
  have Q3 : Hid (∀ w', Ex W3 w' → w'.cell? ⟨w3.heap.size, 0, none⟩ = some (.slice a3 (len r) c3)) := fun w' h => h.at (hW3 ▸ (by simp))
  have XWW : Hid (Ex W W3) := x2.out.trans (X3.out.trans X4.out)
  have u2 := Q2.out w3 (Ex.refl _)
  clear ht3 hb3 hW3 q0 q1 q2 q3 q4
  cases ok
  · go_wp2_with fail
    rw [HW3.out]
    refine Calls.mono (EV.out _ a3 c3 a2 c2 (T3.out _ X4.out) (T2.out _ (X3.out.trans X4.out))) ?_
    rintro e w5 ⟨rfl, hb5⟩
    clear u2
    have u2 := Q2.out w5 (X4.out.trans hb5)
    have u3 := Q3.out w5 hb5
    go_wp2_with fail
    refine Calls.mono (EV.out _ a3 c3 a2 c2 (T3.out _ (X4.out.trans hb5)) (T2.out _ (X3.out.trans (X4.out.trans hb5)))) ?_
    rintro e w6 ⟨rfl, hb6⟩
    go_wp2_with fail
    go_ret
    exact ⟨rfl, XW.out.trans (XWW.out.trans (hb5.trans hb6))⟩
  · go_wp2_with fail
    rw [HW3.out]
    refine Calls.mono (EV.out _ a3 c3 a2 c2 (T3.out _ X4.out) (T2.out _ (X3.out.trans X4.out))) ?_
    rintro e w5 ⟨rfl, hb5⟩
    have X5 : Hid (Ex W3 w5) := hb5
    clear u2 hb5
    go_wp2_with fail
    go_loopw [10] (fun i wr => ∃ (j : Nat), j ≤ tlen f ∧ i = .int .i64 j ∧ Ex W3 wr) (fun i _ => tlen f - (intOf i).toNat)
    case atStart => exact ⟨0, by omega, rfl, X5.out⟩
    case round =>
      obtain ⟨j, hj, rfl, hx⟩ := hrel
      have E : Hid (Ex W3 wr) := hx
      obtain ⟨q0, q1, q2, q3, q4⟩ := C.out wr (XWW.out.trans hx)
      have u3 := Q3.out wr hx
      clear hx
      by_cases hlt : j < tlen f
      · obtain ⟨b, o, rfl, _, hbs, hk⟩ := MA_at (MN.out wr (XWW.out.trans E.out)) (by omega)
        obtain ⟨e0, e1, e2, ⟨pa', pc', e3, hp'⟩, a', c', e4, hm'⟩ := hk j hlt
        have HI : Hid _ := IJ.out (by first | trivial | rfl) wr j pa' pc' a' c' (XWW.out.trans E.out) hlt (PS_pa.1 hp'.1) hm'
        clear hk hp' hm'
        go_wp2_with fail
        refine Calls.mono HI.out ?_
        rintro e w7 ⟨g, a7, c7, rfl, hb7⟩
        go_wp2_with fail
        go_roundw
        case rel => exact ⟨j + 1, by omega, by go_num, E.out.trans (hb7.trans (Ex.new _ _))⟩
        case measure => simp [intOf]; omega
      · go_wp2_with fail
        refine Calls.mono (OKT.out _ a3 c3 (T3.out _ (X4.out.trans E.out))) ?_
        rintro e w8 ⟨rfl, hb8⟩
        go_wp2_with fail
        go_ret
        exact ⟨rfl, XW.out.trans (XWW.out.trans (E.out.trans hb8))⟩

end Go.Proofs.YthdihpcpobhadaaDoor

namespace Go.Proofs.YthdihpcpobhadaaDoor

open Go.RowKit Go.Deep

attribute [local go_sem ↓] Go.wp_at_zero Go.wp_at_succ

theorem termB_down {ns : List ByteArray} : ∀ (d : Nat) {k n : Int} {s : ByteArray} {p : List Int} {f : TM}, termB ns (d + 1) k n s p f = true → tdep f < d → termB ns d k n s p f = true
  | 0, _, _, _, _, _, _, h => by omega
  | d + 1, k, n, s, p, f, h, hd => by
    rw [termB] at h ⊢
    simp only [Bool.and_eq_true, List.all_eq_true, List.mem_range] at h ⊢
    exact ⟨h.1, fun i hi => termB_down d (h.2.1 i hi) (by have := tdep_kid f i hi; omega), h.2.2⟩

/-- The type of a part of a term is the part of its type. -/
theorem kindR_part {ns : List ByteArray} {tl : F} {k n : Int} {s : ByteArray} {x p : List Int} {f : TM} (h : (kindR ns tl k n s x f).2 = true) (hd : tdep f < 7) (hp : pathB p = true) (hl : p.length ≤ 4) :
    kindR ns tl 7 0 ⟨#[]⟩ p (.node 0 0 (k, n, s, x) f .nil) = typeAtR (kindR ns tl k n s x f).1 p := by
  obtain ⟨h1, h2, h3, h4, h5⟩ := kindR_yes h
  have hf : fits 4 (kindR ns tl k n s x f).1 = true := kindR_fits
  have h7 : termB ns 7 k n s x f = true := termB_down 7 h4 hd
  have ht : termB ns 8 7 0 ⟨#[]⟩ p (.node 0 0 (k, n, s, x) f .nil) = true := by
    rw [termB_tok, tokB_7]
    have e1 : tlen (.node 0 0 (k, n, s, x) f .nil : TM) = 1 := rfl
    have e2 : kidsB ns 7 (.node 0 0 (k, n, s, x) f .nil) = true := by
      simp only [kidsB, List.all_eq_true, List.mem_range]
      intro i hi
      rw [e1] at hi
      have : i = 0 := by omega
      subst this
      exact h7
    rw [e1, e2, hp, decide_eq_true hl]
    rfl
  rw [kindR_ok h1 h2 h3 ht, evT, h5]
  show typeR (oneT _ 7 _ p (some (.node 0 0 0 (kindR ns tl k n s x f).1 .nil))) = _
  generalize (kindR ns tl k n s x f).1 = r at hf
  unfold typeAtR
  rw [if_pos hf]
  show typeR (partF r p) = _
  cases partF r p <;> rfl

set_option maxRecDepth 100000 in
set_option maxHeartbeats 4000000 in
theorem lawKindPart (ea eb : Addr) (n cc m mc : Nat) (ca ma : Option Addr) (w : World) (hG : Two ea eb w) (hn : n ≤ cc) (hc : cc ≤ 9223372036854775807) (hB : By w n ca) :
    Calls Tryd.prog 4 #[.slice ca n cc, .slice ma m mc] w fun e w' => e = .returned (.bool true) ∧ Ex w w' := by
  have B : Hid (By w n ca) := hB
  have G : Hid (∀ w', Ex w w' → Two ea eb w') := fun w' h => hG.ex h
  clear hB hG
  by_cases hbig : 1048576 < n
  · have d1 : decide ((1048576 : Int) < (n : Int)) = true := by simp; omega
    go_enter Tryd.func4, Tryd.ntmps4
    go_wp2_with fail
    go_ret
    exact ⟨rfl, Ex.refl _⟩
  have d1 : decide ((1048576 : Int) < (n : Int)) = false := by simp; omega
  by_cases hbig2 : 1048576 < m
  · have d2 : decide ((1048576 : Int) < (m : Int)) = true := by simp; omega
    go_enter Tryd.func4, Tryd.ntmps4
    go_wp2_with fail
    go_ret
    exact ⟨rfl, Ex.refl _⟩
  have d2 : decide ((1048576 : Int) < (m : Int)) = false := by simp; omega
  go_enter Tryd.func4, Tryd.ntmps4
  go_wp2_with fail
  refine Calls.mono (DrawKindTerm_any n cc ca _ hn hc B.out) ?_
  rintro e w1 ⟨ns, na, tl, ta, tc, k, nn, s, x, xa, xc, f, fa, fc, rfl, hns, hX, hT, hTl, htc, htc2, hP, hxc, hM, hS, hx1⟩
  have hnl : ns.length = 3 := by rcases hns with rfl | rfl <;> rfl
  have hz : XLm ns := by
    intro i hi
    rcases hns with rfl | rfl
    all_goals
      have h3 : i = 0 ∨ i = 1 ∨ i = 2 := by have : i < 3 := hi; omega
      rcases h3 with rfl | rfl | rfl <;> (show (1 : Nat) ≤ _; omega)
  obtain ⟨W, hW⟩ : ∃ W, W = w1.alloc (.cells #[.int .i64 k, .int .i64 nn, .string s, .slice xa x.length xc, .slice fa (tlen f) fc] 28) := ⟨_, rfl⟩
  have X1 : Hid (Ex w1 W) := hW ▸ Ex.new _ _
  have XW : Hid (Ex w W) := hx1.trans X1.out
  have HW : Hid (w1.alloc (.cells #[.int .i64 k, .int .i64 nn, .string s, .slice xa x.length xc, .slice fa (tlen f) fc] 28) = W) := hW.symm
  have C : Hid (∀ w', Ex W w' → w'.cell? ⟨w1.heap.size, 0, none⟩ = some (.int .i64 k) ∧ w'.cell? ⟨w1.heap.size, 1, none⟩ = some (.int .i64 nn) ∧ w'.cell? ⟨w1.heap.size, 2, none⟩ = some (.string s) ∧ w'.cell? ⟨w1.heap.size, 3, none⟩ = some (.slice xa x.length xc) ∧ w'.cell? ⟨w1.heap.size, 4, none⟩ = some (.slice fa (tlen f) fc)) := fun w' h => ⟨h.at (hW ▸ (by simp)), h.at (hW ▸ (by simp)), h.at (hW ▸ (by simp)), h.at (hW ▸ (by simp)), h.at (hW ▸ (by simp))⟩
  have XN : Hid (∀ w', Ex W w' → XA w' 0 ns na) := fun w' h => XA_lo (XA_below hX (X1.out.trans h)) (Nat.zero_le _)
  have TN : Hid (∀ w', Ex W w' → TA w' 0 tl ta) := fun w' h => TA_lo (TA_below hT (X1.out.trans h)) (Nat.zero_le _)
  have PN : Hid (∀ w', Ex W w' → PA w' 0 x xa) := fun w' h => PA_lo (PA_below hP (X1.out.trans h)) (Nat.zero_le _)
  have MN : Hid (∀ w', Ex W w' → MA w' 0 f fa) := fun w' h => MA_lo (MA_below hM (X1.out.trans h)) (Nat.zero_le _)
  have htl : len tl ≤ 1000000000 := by have := hTl.1; omega
  have SK : Hid (∀ w', Ex W w' → Calls Tryd.prog 8 #[.slice na ns.length 3, .slice ta (len tl) tc, .agg #[.int .i64 k, .int .i64 nn, .string s, .slice xa x.length xc, .slice fa (tlen f) fc]] w' (KtP (kindR ns tl k nn s x f) w')) := fun w' h => by
    have := sKindTerm_any ns na 3 tl ta tc k nn s x xa xc f fa fc w' (XN.out _ h) (by omega) (by omega) (TN.out _ h) (by have := hS.path; omega) (PN.out _ h) (MN.out _ h) (by have := hS.kids; omega) hS.sm
    exact this
  have IK : Hid (∀ w', Ex W w' → Calls Tryd.prog 9 #[.slice na ns.length 3, .slice ta (len tl) tc, .agg #[.int .i64 k, .int .i64 nn, .string s, .slice xa x.length xc, .slice fa (tlen f) fc]] w' (KtP (kindR ns tl k nn s x f) w')) := fun w' h => by
    have := iKindTerm_any ea eb ns na 3 tl ta tc k nn s x xa xc f fa fc w' (G.out _ (XW.out.trans h)) (XN.out _ h) hz (by omega) (TN.out _ h) htl (by have := hS.name; omega) (by have := hS.path; omega) (PN.out _ h) (MN.out _ h) (by have := hS.kids; omega) hS.sm hS.lm
    exact this
  obtain ⟨p, hp⟩ : ∃ p : List Int, p = ([((m % 2 : Nat) : Int), ((m / 2 % 2 : Nat) : Int)]).take (m % 3) := ⟨_, rfl⟩
  have hpl : p.length = m % 3 := by rw [hp, List.length_take]; simp; omega
  have hpB : pathB p = true := by
    rw [hp]
    have hB1 : ∀ q ∈ [((m % 2 : Nat) : Int), ((m / 2 % 2 : Nat) : Int)], q = 0 ∨ q = 1 := by
      intro q hq
      simp only [List.mem_cons, List.not_mem_nil, or_false] at hq
      rcases hq with rfl | rfl <;> omega
    simp only [pathB, List.all_eq_true]
    intro q hq
    rcases hB1 q (List.mem_of_mem_take hq) with rfl | rfl <;> rfl
  have hpc : ∀ i, i < p.length → p.getD i 0 = ([((m % 2 : Nat) : Int), ((m / 2 % 2 : Nat) : Int)]).getD i 0 := fun i hi => by
    rw [hpl] at hi
    rw [hp, List.getD_eq_getElem?_getD, List.getD_eq_getElem?_getD, List.getElem?_take, if_pos hi]
  have IJ : Hid ((kindR ns tl k nn s x f).2 = true → ∀ w' pa' pc' a' c', Ex W w' → PA w' 0 p pa' → MA w' 0 (.node 0 0 (k, nn, s, x) f .nil) a' → Calls Tryd.prog 9 #[.slice na ns.length 3, .slice ta (len tl) tc, .agg #[.int .i64 7, .int .i64 0, .string ⟨#[]⟩, .slice pa' p.length pc', .slice a' 1 c']] w' (KtQ (typeAtR (kindR ns tl k nn s x f).1 p).1 (typeAtR (kindR ns tl k nn s x f).1 p).2 w')) := fun hok w' pa' pc' a' c' h hp' hm' => by
    have hk := kindR_part hok (by have := hS.deep; omega) hpB (by omega)
    have := iKindTerm_any ea eb ns na 3 tl ta tc 7 0 ⟨#[]⟩ p pa' pc' (.node 0 0 (k, nn, s, x) f .nil) a' c' w' (G.out _ (XW.out.trans h)) (XN.out _ h) hz (by omega) (TN.out _ h) htl (by show (0 : Nat) ≤ _; omega) (by omega) hp' hm' (by show (1 : Nat) ≤ _; omega) ⟨by have := hS.path; omega, by have := hS.kids; omega, hS.sm, trivial⟩ ⟨by have := hS.name; omega, by have := hS.path; omega, by have := hS.kids; omega, hS.lm, trivial⟩
    rw [hk] at this; exact this
  have FT : Hid (fits 4 (kindR ns tl k nn s x f).1 = true) := kindR_fits
  obtain ⟨R, hR⟩ : ∃ R, R = kindR ns tl k nn s x f := ⟨_, rfl⟩
  rw [← hR] at SK IK IJ FT
  clear hR
  obtain ⟨r, ok⟩ := R
  simp only at FT IJ
  have SQ : Hid (∀ w', Ex W w' → Calls Tryd.prog 8 #[.slice na ns.length 3, .slice ta (len tl) tc, .agg #[.int .i64 k, .int .i64 nn, .string s, .slice xa x.length xc, .slice fa (tlen f) fc]] w' (KtQ r ok w')) := fun w' h => SK.out w' h
  have IQ : Hid (∀ w', Ex W w' → Calls Tryd.prog 9 #[.slice na ns.length 3, .slice ta (len tl) tc, .agg #[.int .i64 k, .int .i64 nn, .string s, .slice xa x.length xc, .slice fa (tlen f) fc]] w' (KtQ r ok w')) := fun w' h => IK.out w' h
  clear SK IK
  have EV : Hid (∀ w' a' c' a'' c'', TA w' 0 r a' → TA w' 0 r a'' → Calls Tryd.prog 10 #[.agg #[.slice a' (len r) c'], .agg #[.slice a'' (len r) c'']] w' fun e w'' => e = .returned (.bool true) ∧ Ex w' w'') := fun w' a' c' a'' c'' h h' => by
    have := lhType_any (dep r + 1) r r a' a'' c' c'' 0 0 w' (by omega) (by have := (fits_sm _ _ FT.out).1; omega) (fits_sm _ _ FT.out).2 h h'
    rw [eqT_refl] at this; exact this
  have OKT : Hid (∀ w' a' c', TA w' 0 r a' → Calls Tryd.prog 11 #[.agg #[.slice a' (len r) c']] w' fun e w'' => e = .returned (.bool true) ∧ Ex w' w'') := fun w' a' c' h => by
    have := iTypeOk_any r a' c' 0 w' h
    rw [FT.out] at this; exact this
  have zW : w1.heap.size < W.heap.size := by rw [hW]; simp
  have hkids : tlen f ≤ 2 := hS.kids
  have FA : Hid (fits 4 (typeAtR r p).1 = true) := by
    show _ = _
    unfold typeAtR
    rw [if_pos FT.out]
    cases hq : partF r p with
    | none => rfl
    | some g => exact part_fits _ _ _ FT.out hq
  have IA : Hid (∀ w' a' c' pa' pc', TA w' 0 r a' → PA w' 0 p pa' → Calls Tryd.prog 12 #[.agg #[.slice a' (len r) c'], .slice pa' p.length pc'] w' (KtQ (typeAtR r p).1 (typeAtR r p).2 w')) := fun w' a' c' pa' pc' h h' => iTypeAt_any r p a' c' pa' pc' 0 w' (by omega) h h'
  have hp2 : p.length ≤ 2 := by omega
  have HPC : Hid (∀ i, i < p.length → p.getD i 0 = ([((m % 2 : Nat) : Int), ((m / 2 % 2 : Nat) : Int)]).getD i 0) := hpc
  have XC : Hid (x.length ≤ xc ∧ xc ≤ 9223372036854775807) := hxc
  have m2 : (m : Int).tmod 2 = ((m % 2 : Nat) : Int) := by rw [Int.tmod_eq_emod_of_nonneg (by omega)]; omega
  have m3 : (m : Int).tdiv 2 = ((m / 2 : Nat) : Int) := by rw [Int.tdiv_eq_ediv_of_nonneg (by omega)]; omega
  have m4 : ((m / 2 : Nat) : Int).tmod 2 = ((m / 2 % 2 : Nat) : Int) := by rw [Int.tmod_eq_emod_of_nonneg (by omega)]; omega
  have m5 : (m : Int).tmod 3 = (p.length : Int) := by rw [Int.tmod_eq_emod_of_nonneg (by omega), hpl]; omega
  obtain ⟨R2, hR2⟩ : ∃ R2, R2 = typeAtR r p := ⟨_, rfl⟩
  rw [← hR2] at IJ FA IA
  clear hR2
  obtain ⟨g, ok2⟩ := R2
  simp only at IJ FA IA
  have EG : Hid (∀ w' a' c' a'' c'', TA w' 0 g a' → TA w' 0 g a'' → Calls Tryd.prog 10 #[.agg #[.slice a' (len g) c'], .agg #[.slice a'' (len g) c'']] w' fun e w'' => e = .returned (.bool true) ∧ Ex w' w'') := fun w' a' c' a'' c'' h h' => by
    have := lhType_any (dep g + 1) g g a' a'' c' c'' 0 0 w' (by omega) (by have := (fits_sm _ _ FA.out).1; omega) (fits_sm _ _ FA.out).2 h h'
    rw [eqT_refl] at this; exact this
  obtain ⟨ia, hia⟩ : ∃ ia, ia = m % 2 := ⟨_, rfl⟩
  obtain ⟨ib, hib⟩ : ∃ ib, ib = m / 2 % 2 := ⟨_, rfl⟩
  obtain ⟨ic, hic⟩ : ∃ ic, ic = m / 2 := ⟨_, rfl⟩
  rw [← hia, ← hib] at HPC
  rw [← hia] at m2
  rw [← hib, ← hic] at m4
  rw [← hic] at m3
  have ha2 : ia < 2 := by omega
  have hb2' : ib < 2 := by omega
  have hc2 : ic ≤ 1048576 := by omega
  clear hpl hpc hp hia hib hic hpB
  clear hW hX hT hP hM hS hTl htl hxc hz hnl hns hx1
  go_wp2_with fail
  rw [HW.out]
  refine Calls.mono (SQ.out _ (Ex.refl _)) ?_
  rintro e w2 ⟨a2, c2, rfl, ht2, hb2⟩
  have T2 : Hid (∀ w', Ex w2 w' → TA w' 0 r a2) := fun w' h => TA_lo (TA_below ht2 h) (Nat.zero_le _)
  have x2 : Hid (Ex W w2) := hb2
  obtain ⟨q0, q1, q2, q3, q4⟩ := C.out w2 hb2
  have z2 : w1.heap.size < w2.heap.size := by have := hb2.size; omega
  clear ht2 hb2
  go_wp2_with fail
  refine Calls.mono (IQ.out _ (x2.out.trans (Ex.new _ _))) ?_
  rintro e w3 ⟨a3, c3, rfl, ht3, hb3⟩
  have T3 : Hid (∀ w', Ex w3 w' → TA w' 0 r a3) := fun w' h => TA_lo (TA_below ht3 h) (Nat.zero_le _)
  have X3 : Hid (Ex w2 w3) := (Ex.new _ _).trans hb3
  have Q2 : Hid (∀ w', Ex w3 w' → w'.cell? ⟨w2.heap.size, 0, none⟩ = some (.slice a2 (len r) c2)) := fun w' h => h.at (hb3.at (by simp))
  have z3 : w2.heap.size < w3.heap.size := World.block_lt_of_cell? _ _ (Q2.out _ (Ex.refl _))
  obtain ⟨W3, hW3⟩ : ∃ W3, W3 = w3.alloc (.cells #[.slice a3 (len r) c3] 32) := ⟨_, rfl⟩
  have HW3 : Hid (w3.alloc (.cells #[.slice a3 (len r) c3] 32) = W3) := hW3.symm
  have X4 : Hid (Ex w3 W3) := hW3 ▸ Ex.new _ _
  have Q3 : Hid (∀ w', Ex W3 w' → w'.cell? ⟨w3.heap.size, 0, none⟩ = some (.slice a3 (len r) c3)) := fun w' h => h.at (hW3 ▸ (by simp))
  have XWW : Hid (Ex W W3) := x2.out.trans (X3.out.trans X4.out)
  have u2 := Q2.out w3 (Ex.refl _)
  clear ht3 hb3 hW3 q0 q1 q2 q3 q4
  cases ok
  · go_wp2_with fail
    rw [HW3.out]
    refine Calls.mono (EV.out _ a3 c3 a2 c2 (T3.out _ X4.out) (T2.out _ (X3.out.trans X4.out))) ?_
    rintro e w5 ⟨rfl, hb5⟩
    clear u2
    have u2 := Q2.out w5 (X4.out.trans hb5)
    have u3 := Q3.out w5 hb5
    go_wp2_with fail
    refine Calls.mono (EV.out _ a3 c3 a2 c2 (T3.out _ (X4.out.trans hb5)) (T2.out _ (X3.out.trans (X4.out.trans hb5)))) ?_
    rintro e w6 ⟨rfl, hb6⟩
    go_wp2_with fail
    go_ret
    exact ⟨rfl, XW.out.trans (XWW.out.trans (hb5.trans hb6))⟩
  · go_wp2_with fail
    rw [HW3.out]
    refine Calls.mono (EV.out _ a3 c3 a2 c2 (T3.out _ X4.out) (T2.out _ (X3.out.trans X4.out))) ?_
    rintro e w5 ⟨rfl, hb5⟩
    have X5 : Hid (Ex W3 w5) := hb5
    obtain ⟨q0, q1, q2, q3, q4⟩ := C.out w5 (XWW.out.trans X5.out)
    have z5 : w1.heap.size < w5.heap.size := World.block_lt_of_cell? _ _ q0
    have u3 := Q3.out w5 X5.out
    have z53 : w3.heap.size < w5.heap.size := World.block_lt_of_cell? _ _ u3
    clear u3
    obtain ⟨W6, hW6⟩ : ∃ W6, W6 = (((w5.alloc (.cells #[.int .i64 (ia : Int), .int .i64 (ib : Int)] 3)).alloc (.cells #[.int .i64 k, .int .i64 nn, .string s, .slice xa x.length xc, .slice fa (tlen f) fc] 28)).alloc (.cells #[.int .i64 7, .int .i64 0, .string ⟨#[]⟩, .slice (some ⟨w5.heap.size, 0, none⟩) p.length 2, .slice (some ⟨w5.heap.size + 1, 0, none⟩) 1 1] 28)) := ⟨_, rfl⟩
    have X6 : Hid (Ex w5 W6) := hW6 ▸ (((Ex.new _ _).alloc _).alloc _)
    have XW6 : Hid (Ex W3 W6) := X5.out.trans X6.out
    have HB6 : Hid (W6.heap[w5.heap.size]? = some (.cells #[.int .i64 (ia : Int), .int .i64 (ib : Int)] 3 (0, 0))) := hW6 ▸ ((Ex.new _ _).blk ((Ex.new _ _).blk (heap_alloc_new _ _)))
    have HT6 : Hid (W6.heap[w5.heap.size + 1]? = some (.cells #[.int .i64 k, .int .i64 nn, .string s, .slice xa x.length xc, .slice fa (tlen f) fc] 28 (0, 0))) := hW6 ▸ ((Ex.new _ _).blk (heap_alloc_at _ _ (by simp)))
    have P6 : Hid (∀ w', Ex W6 w' → PA w' 0 p (some ⟨w5.heap.size, 0, none⟩)) := fun w' h => Or.inr ⟨w5.heap.size, 0, rfl, Nat.zero_le _, fun i hi => by
      have hb := h.blk HB6.out
      rw [HPC.out i hi]
      have h2 : i = 0 ∨ i = 1 := by omega
      rcases h2 with rfl | rfl
      · exact blk_cell hb 0
      · exact blk_cell hb 1⟩
    have M6 : Hid (MA W6 0 (.node 0 0 (k, nn, s, x) f .nil) (some ⟨w5.heap.size + 1, 0, none⟩)) := MS_one HT6.out (Nat.zero_le _) (PN.out W6 (XWW.out.trans XW6.out)) XC.out (MN.out W6 (XWW.out.trans XW6.out))
    have HW6 : Hid _ := hW6
    clear hW6
    go_wp2_with fail
    rw [← HW6.out]
    refine Calls.mono (IJ.out (by first | trivial | rfl) W6 _ _ _ _ (XWW.out.trans XW6.out) (P6.out _ (Ex.refl _)) M6.out) ?_
    rintro e w7 ⟨a7, c7, rfl, ht7, hb7⟩
    have T7 : Hid (∀ w', Ex w7 w' → TA w' 0 g a7) := fun w' h => TA_lo (TA_below ht7 h) (Nat.zero_le _)
    have X7 : Hid (Ex W6 w7) := hb7
    have u3 := Q3.out w7 (XW6.out.trans hb7)
    have z73 : w3.heap.size < w7.heap.size := World.block_lt_of_cell? _ _ u3
    clear ht7 hb7 q0 q1 q2 q3 q4
    go_wp2_with fail
    refine Calls.mono (IA.out _ a3 c3 _ _ (T3.out _ (X4.out.trans (XW6.out.trans (X7.out.trans (Ex.new _ _))))) (P6.out _ (X7.out.trans (Ex.new _ _)))) ?_
    rintro e w8 ⟨a8, c8, rfl, ht8, hb8⟩
    have X8 : Hid (Ex w7 w8) := (Ex.new _ _).trans hb8
    have u7 : w8.cell? ⟨w7.heap.size, 0, none⟩ = some (.slice a7 (len g) c7) := hb8.at (by simp)
    have z87 : w7.heap.size < w8.heap.size := World.block_lt_of_cell? _ _ u7
    have T8 : Hid (∀ w', Ex w8 w' → TA w' 0 g a8) := fun w' h => TA_lo (TA_below ht8 h) (Nat.zero_le _)
    have hzz : (ok2 == ok2) = true := by cases ok2 <;> rfl
    clear ht8 hb8 u3
    go_wp2_with fail
    refine Calls.mono (EG.out _ a7 c7 a8 c8 (T7.out _ (X8.out.trans (Ex.new _ _))) (T8.out _ (Ex.new _ _))) ?_
    rintro e w9 ⟨rfl, hb9⟩
    go_wp2_with fail
    go_ret
    exact ⟨rfl, XW.out.trans (XWW.out.trans (XW6.out.trans (X7.out.trans (X8.out.trans ((Ex.new _ _).trans hb9)))))⟩

end Go.Proofs.YthdihpcpobhadaaDoor

namespace Go.Proofs.YthdihpcpobhadaaDoor

open Go.RowKit Go.Deep Go.ChangeShapes Go.WideShapes

set_option maxRecDepth 100000

/-- So many of a family. -/
def build (g : Nat → Int × F) : Nat → Nat → F
  | _, 0 => .nil
  | i, n + 1 => .node 0 0 (g i).1 (g i).2 (build g (i + 1) n)
theorem len_build (g : Nat → Int × F) : ∀ i n, len (build g i n) = n
  | _, 0 => rfl
  | i, n + 1 => by simp [build, len, len_build g (i + 1) n]
theorem kid_build (g : Nat → Int × F) : ∀ i n j, j < n → kid (build g i n) j = (g (i + j)).2
  | _, 0, j, h => by omega
  | i, n + 1, 0, _ => rfl
  | i, n + 1, j + 1, h => by
    show kid (build g (i + 1) n) j = _
    rw [kid_build g (i + 1) n j (by omega)]; congr 2; omega
theorem num_build (g : Nat → Int × F) : ∀ i n j, j < n → num (build g i n) j = (g (i + j)).1
  | _, 0, j, h => by omega
  | i, n + 1, 0, _ => rfl
  | i, n + 1, j + 1, h => by
    show num (build g (i + 1) n) j = _
    rw [num_build g (i + 1) n j (by omega)]; congr 2; omega
theorem Lm_mk : ∀ {f : F}, (∀ j, j < len f → len (kid f j) ≤ 9223372036854775807 ∧ Lm (kid f j)) → Lm f
  | .nil, _ => trivial
  | .node _ _ _ k r, h => ⟨(h 0 (by simp [len])).1, (h 0 (by simp [len])).2, Lm_mk fun j hj => h (j + 1) (by simp only [len]; omega)⟩

theorem Tryd.cells82 : Tryd.prog.cellsOf 82 = 1 := by kernel_rfl
theorem Tryd.cells40 : Tryd.prog.cellsOf 40 = 1 := by kernel_rfl

theorem open_type {H : Type} {enc : TypeId × Value → H} {w : World} {sp : Nat → Bool} {hd : Bool} : ∀ (fuel : Nat) (cs : List Value) (x : DataW H × List MemPlace), DataW.trod enc Tryd.prog w 0 sp hd fuel 40 cs = some x →
    ∃ (f : F) (a : Option Addr) (cap : Nat), cs = [.slice a (len f) cap] ∧ TA w 0 f a ∧ len f ≤ 9223372036854775807 ∧ Lm f := by
  intro fuel
  induction fuel using Nat.strongRecOn with
  | _ fuel ih =>
    intro cs x h
    rcases DataW.trod_slice Tryd.underlying40 h with ⟨rfl, _⟩ | ⟨a, n, cap, elems, rest, m, hfm, rfl, _, hb, hl, hm, hlen, hel, _, _⟩
    · exact ⟨.nil, none, 0, rfl, Or.inl rfl, by simp [len], trivial⟩
    · unfold maxLen at hm
      have hfam : ∀ i, i < n → ∃ g : Int × F, ∃ a' cap', w.cell? (a.add i) = some (.slice a' (len g.2) cap') ∧ TA w 0 g.2 a' ∧ len g.2 ≤ 9223372036854775807 ∧ Lm g.2 := by
        intro i hi
        have e := hel i hi
        rw [Tryd.cells82, Nat.mul_one] at e
        have hi' : i < elems.length := by omega
        rw [List.getElem?_eq_getElem hi', Option.bind_eq_some_iff] at e
        obtain ⟨cs', h1, h2⟩ := e
        obtain ⟨_, hl1, _⟩ := World.cells?_some h1
        match cs', hl1 with
        | [v], _ =>
          have hc := cell_of_cells?_one h1
          obtain ⟨xs, k, hmk, _, _, hxl, hf⟩ := DataW.trod_struct Tryd.underlying82 h2
          have h3 : DataW.trod enc Tryd.prog w 0 sp hd k 40 (([v].drop 0).take (Tryd.prog.cellsOf 40)) = xs[0]? := hf 0 _ rfl
          match xs, hxl with
          | [y], _ =>
            rw [Tryd.cells40] at h3
            obtain ⟨g, a', cap', e1, e2, e3, e4⟩ := ih k (by omega) [v] y (by simpa using h3)
            simp only [List.cons.injEq, and_true] at e1
            exact ⟨(0, g), a', cap', by rw [hc, e1], e2, e3, e4⟩
      haveI : Inhabited (Int × F) := ⟨(0, .nil)⟩
      obtain ⟨g, hg⟩ := choose_lt hfam
      by_cases hn : n = 0
      · subst hn
        exact ⟨.nil, some a, cap, rfl, Or.inl rfl, by simp [len], trivial⟩
      · obtain ⟨b, o, spot⟩ := a
        obtain ⟨_, _, hc0, _⟩ := hg 0 (by omega)
        have hs : spot = none := by simpa [Addr.add] using World.cell?_spot hc0
        subst hs
        refine ⟨build g 0 n, some ⟨b, o, none⟩, cap, by rw [len_build], SA_mk (Nat.zero_le _) fun i hi => ?_, by rw [len_build]; omega, Lm_mk fun i hi => ?_⟩
        · rw [len_build] at hi
          obtain ⟨a', cap', e1, e2, _⟩ := hg i hi
          rw [kid_build g 0 n i hi, Nat.zero_add]
          rw [add_plain] at e1
          exact ⟨a', cap', e1, e2⟩
        · rw [len_build] at hi
          obtain ⟨a', cap', _, _, e3, e4⟩ := hg i hi
          rw [kid_build g 0 n i hi, Nat.zero_add]
          exact ⟨e3, e4⟩

/-- A type by value. -/
theorem open_typeV {H : Type} {enc : TypeId × Value → H} {W : World} {sp : Nat → Bool} {hd : Bool} {r : Reach} {b0 : Nat} {v : Value} {dd : DataW H} {p : List MemPlace} (hv : Value.okWide Tryd.prog W r b0 82 v) (h : DataW.Trod enc Tryd.prog W 0 sp hd 82 v dd p) :
    ∃ (f : F) (a : Option Addr) (cap : Nat), v = .agg #[.slice a (len f) cap] ∧ TA W 0 f a ∧ len f ≤ 9223372036854775807 ∧ Lm f := by
  obtain ⟨cs, rfl, hsz⟩ := okWide_struct Tryd.underlying82 hv
  rw [Tryd.cells82] at hsz
  obtain ⟨fuel, hf⟩ := h
  obtain ⟨xs, k, _, _, _, hxl, hff⟩ := DataW.trod_struct Tryd.underlying82 hf
  have h3 : DataW.trod enc Tryd.prog W 0 sp hd k 40 (((Value.agg cs).cells.toList.drop 0).take (Tryd.prog.cellsOf 40)) = xs[0]? := hff 0 _ rfl
  rw [Tryd.cells40] at h3
  obtain ⟨l⟩ := cs
  match l, hsz with
  | [c], _ =>
    match xs, hxl with
    | [y], _ =>
      obtain ⟨g, a', cap', e1, e2, e3, e4⟩ := open_type k [c] y (by simpa [Value.cells] using h3)
      simp only [List.cons.injEq, and_true] at e1
      exact ⟨g, a', cap', by rw [e1], e2, e3, e4⟩

end Go.Proofs.YthdihpcpobhadaaDoor

namespace Go.Proofs.YthdihpcpobhadaaDoor

open Go.ChangeShapes Go.WideShapes Go.ChangeAt Go.RowKit Go.Deep

set_option maxRecDepth 100000

/-- A list of numbers by value. -/
theorem open_intsV {H : Type} {enc : TypeId × Value → H} {W : World} {sp : Nat → Bool} {hd : Bool} {r : Reach} {b0 : Nat} {v : Value} {dd : DataW H} {p : List MemPlace} (hv : Value.okWide Tryd.prog W r b0 25 v) (h : DataW.Trod enc Tryd.prog W 0 sp hd 25 v dd p) :
    ∃ (xs : List Int) (a : Option Addr) (cap : Nat), v = .slice a xs.length cap ∧ PA W 0 xs a ∧ xs.length ≤ 9223372036854775807 := by
  obtain ⟨a, len, cap, rfl⟩ := okWide_slice Tryd.underlying25 hv
  obtain ⟨fuel, hf⟩ := h
  rcases open_ints Tryd.underlying25 Tryd.underlying3 (by kernel_rfl) hf with ⟨hcs, _⟩ | ⟨x, l, c, zs, hcs, _, hl, hm, hz, _, hcell, _⟩
  · simp [Value.cells] at hcs
    obtain ⟨rfl, rfl, rfl⟩ := hcs
    exact ⟨[], none, 0, rfl, Or.inl rfl, by simp⟩
  · simp [Value.cells] at hcs
    obtain ⟨rfl, rfl, rfl⟩ := hcs
    unfold maxLen at hm
    have hle : len ≤ zs.length := by rw [hz]; split <;> omega
    have htl : (zs.take len).length = len := by simp; omega
    refine ⟨zs.take len, some x, cap, by rw [htl], ?_, by omega⟩
    by_cases h0 : len = 0
    · exact Or.inl (by omega)
    · obtain ⟨b, o, s⟩ := x
      have h1 := hcell 0 (by omega)
      have hs : s = none := by simpa [Addr.add] using World.cell?_spot h1
      subst hs
      refine Or.inr ⟨b, o, rfl, Nat.zero_le _, fun i hi => ?_⟩
      have := hcell i (by omega)
      rw [add_plain] at this
      rw [this]
      simp [List.getD, List.getElem?_take_of_lt (show i < len by omega)]

end Go.Proofs.YthdihpcpobhadaaDoor
