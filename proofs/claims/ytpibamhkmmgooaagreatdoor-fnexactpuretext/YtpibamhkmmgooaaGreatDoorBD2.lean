/- Walks: terms of a list, and how much a function is given and says. -/
import Derived.Test.YtpibamhkmmgooaaGreatDoorTM3

import Derived.Test.YtpibamhkmmgooaaGreatDoorBD1

namespace Go.Proofs.YtpibamhkmmgooaaGreatDoor

open Go.RowKit Go.Deep

attribute [local go_sem ↓] Go.wp_at_zero Go.wp_at_succ

/-- Terms are ok by names. -/
def termsB (ns : List ByteArray) (f : TM) : Bool := decide (tlen f ≤ 60) && (List.range (tlen f)).all fun i => kidB ns 8 f i
theorem termsB_len {ns : List ByteArray} {f : TM} (h : 60 < tlen f) : termsB ns f = false := by simp [termsB, show ¬ tlen f ≤ 60 by omega]
theorem termsB_no {ns : List ByteArray} {f : TM} {i : Nat} (h : i < tlen f) (hb : kidB ns 8 f i = false) : termsB ns f = false := by
  cases hn : termsB ns f with
  | false => rfl
  | true =>
    simp only [termsB, Bool.and_eq_true, List.all_eq_true, List.mem_range] at hn
    rw [hn.2 i h] at hb; cases hb
theorem termsB_yes {ns : List ByteArray} {f : TM} (h1 : tlen f ≤ 60) (h : ∀ i, i < tlen f → kidB ns 8 f i = true) : termsB ns f = true := by
  simp only [termsB, Bool.and_eq_true, List.all_eq_true, List.mem_range, decide_eq_true_eq]
  exact ⟨h1, h⟩

set_option maxRecDepth 100000 in
set_option maxHeartbeats 1000000 in
theorem l12Terms_any (ns : List ByteArray) (na : Option Addr) (nc : Nat) (hns : ns.length ≤ 1000000000) (f : TM) (a : Option Addr) (c : Nat) (w : World) (hX : XA w 0 ns na) (hM : MA w 0 f a) :
    Calls Tryz.prog 39 #[.slice na ns.length nc, .slice a (tlen f) c] w fun e w' => e = .returned (.bool (termsB ns f)) ∧ Ex w w' := by
  have X : Hid (∀ w', Ex w w' → XA w' 0 ns na) := fun _ h => XA_below hX h
  have M : Hid (∀ w', Ex w w' → MA w' 0 f a) := fun _ h => MA_below hM h
  clear hX hM
  by_cases h60 : 60 < tlen f
  · have HR : Hid (termsB ns f = false) := termsB_len h60
    have d1 : decide ((60 : Int) < (tlen f : Int)) = true := by simp; omega
    go_enter Tryz.func39, Tryz.ntmps39
    go_wp2_with fail
    go_ret
    exact ⟨ret_b HR.out.symm, Ex.refl _⟩
  have d1 : decide ((60 : Int) < (tlen f : Int)) = false := by simp; omega
  go_enter Tryz.func39, Tryz.ntmps39
  go_wp2_with fail
  go_loopw [5] (fun i wr => ∃ (j : Nat), j ≤ tlen f ∧ i = .int .i64 j ∧ (∀ l, l < j → kidB ns 8 f l = true) ∧ Ex w wr) (fun i _ => tlen f - (intOf i).toNat)
  case atStart => exact ⟨0, by omega, rfl, fun j hj => by omega, Ex.refl _⟩
  case round =>
    obtain ⟨j, hj, rfl, hall, hx⟩ := hrel
    have A : Hid (∀ l, l < j → kidB ns 8 f l = true) := hall
    have E : Hid (Ex w wr) := hx
    clear hall hx
    by_cases hlt : j < tlen f
    · obtain ⟨b, o, rfl, _, hbs, hk⟩ := MA_at (M.out wr E.out) (by omega)
      obtain ⟨e0, e1, e2, ⟨pa', pc', e3, hp'⟩, a', c', e4, hm'⟩ := hk j hlt
      have HI : Hid (∀ w', Ex wr w' → Calls Tryz.prog 53 #[.slice na ns.length nc, .agg #[.int .i64 (tkind f j), .int .i64 (tnum f j), .string (tname f j), .slice pa' (tpath f j).length pc', .slice a' (tlen (tkid f j)) c'], .int .i64 8] w' fun e w'' => e = .returned (.bool (kidB ns 8 f j)) ∧ Ex w' w'') :=
        fun w' h => l12Term_any ns na nc hns 8 _ _ _ _ _ _ _ _ _ w' (by omega) (X.out w' (E.out.trans h)) (PA_below (PS_pa.1 hp') h) (MA_below hm' h)
      have U : Hid (kidB ns 8 f j = true → ∀ l, l < j + 1 → kidB ns 8 f l = true) := fun h => upto_succ A.out h
      have V : Hid (kidB ns 8 f j = false → termsB ns f = false) := termsB_no hlt
      clear hk hp' hm'
      go_wp2_with fail
      refine (HI.out _ (Ex.refl _)).mono ?_
      rintro e w1 ⟨rfl, hb1⟩
      cases hkb : kidB ns 8 f j with
      | false =>
        have HR : Hid (termsB ns f = false) := V.out hkb
        go_wp2_with fail
        go_ret
        exact ⟨ret_b HR.out.symm, E.out.trans hb1⟩
      | true =>
        have HU : Hid _ := U.out hkb
        go_wp2_with fail
        go_roundw
        case rel => exact ⟨j + 1, by omega, by go_num, HU.out, E.out.trans hb1⟩
        case measure => simp [intOf]; omega
    · have HR : Hid (termsB ns f = true) := termsB_yes (by omega) fun l hl => A.out l (by omega)
      go_wp2_with fail
      go_ret
      exact ⟨ret_b HR.out.symm, E.out⟩

/-- How much a function is given, and says. -/
def arityR (l : List PM) (s : ByteArray) : Nat × Nat × Bool := match l.find? (fun f => f.name.toList == s.toList) with
  | some f => (f.params.length, tlen f.says, true)
  | none => (0, 0, false)

theorem arity_yes {l : List PM} {s : ByteArray} {m i : Nat} (h : i < l.length) (him : i < m) (hb : ∀ j, j < i → ((l.getD j pm0).name.toList == s.toList) = false) (he : ((l.getD i pm0).name.toList == s.toList) = true) : arityR (l.take m) s = ((l.getD i pm0).params.length, tlen (l.getD i pm0).says, true) := by
  have : (l.take m).find? (fun f => f.name.toList == s.toList) = some (l.getD i pm0) := by
    rw [List.find?_eq_some_iff_getElem]
    refine ⟨he, i, by rw [List.length_take]; omega, by simp [List.getD, h], fun j hj => ?_⟩
    have hjl : j < l.length := by omega
    have := hb j hj
    simp only [List.getD, List.getElem?_eq_getElem hjl, Option.getD_some] at this
    simp only [List.getElem_take, this, Bool.not_false]
  simp only [arityR, this]
theorem arity_no {l : List PM} {s : ByteArray} {m : Nat} (hm : m ≤ l.length) (hb : ∀ j, j < m → ((l.getD j pm0).name.toList == s.toList) = false) : arityR (l.take m) s = (0, 0, false) := by
  have : (l.take m).find? (fun f => f.name.toList == s.toList) = none := by
    rw [List.find?_eq_none]
    intro f hf
    obtain ⟨i, hi, rfl⟩ := List.getElem_of_mem hf
    rw [List.length_take] at hi
    have hil : i < l.length := by omega
    have := hb i (by omega)
    simp only [List.getD, List.getElem?_eq_getElem hil, Option.getD_some] at this
    simp only [List.getElem_take, this]
    simp
  simp only [arityR, this]

set_option maxRecDepth 100000 in
set_option maxHeartbeats 1000000 in
theorem l12Arity_any (l : List PM) (a : Option Addr) (c : Nat) (m : Nat) (s : ByteArray) (w : World) (hm : m ≤ l.length) (hl : l.length ≤ 1000000000) (hQ : QA w 0 l a) :
    Calls Tryz.prog 22 #[.slice a l.length c, .int .i64 m, .string s] w fun e w' => e = .returned (.tuple #[.int .i64 (arityR (l.take m) s).1, .int .i64 (arityR (l.take m) s).2.1, .bool (arityR (l.take m) s).2.2]) ∧ Ex w w' := by
  have Q : Hid (∀ w', Ex w w' → QA w' 0 l a) := fun _ h => QA_below hQ h
  clear hQ
  go_enter Tryz.func22, Tryz.ntmps22
  go_wp2_with fail
  go_loopw [9] (fun i wr => ∃ (j : Nat), j ≤ m ∧ i = .int .i64 j ∧ (∀ k, k < j → ((l.getD k pm0).name.toList == s.toList) = false) ∧ Ex w wr) (fun i _ => m - (intOf i).toNat)
  case atStart => exact ⟨0, by omega, rfl, fun j hj => by omega, Ex.refl _⟩
  case round =>
    obtain ⟨j, hj, rfl, hall, hx⟩ := hrel
    have A : Hid (∀ k, k < j → ((l.getD k pm0).name.toList == s.toList) = false) := hall
    have E : Hid (Ex w wr) := hx
    clear hall hx
    by_cases hlt : j < m
    · obtain ⟨b, o, rfl, _, hbs, hk⟩ := QA_at (Q.out wr E.out) (by omega)
      obtain ⟨e0, ⟨a1, c1, e1, hh1⟩, hh2, ⟨a3, c3, e3, hh3⟩⟩ := hk j (by omega)
      clear hh1 hh2 hh3
      have U : Hid (((l.getD j pm0).name.toList == s.toList) = false → ∀ k, k < j + 1 → ((l.getD k pm0).name.toList == s.toList) = false) := fun h => upto_succ A.out h
      have V : Hid (((l.getD j pm0).name.toList == s.toList) = true → arityR (l.take m) s = ((l.getD j pm0).params.length, tlen (l.getD j pm0).says, true)) := fun h => arity_yes (by omega) hlt A.out h
      have hjl : j < l.length := by omega
      obtain ⟨g, hg⟩ : ∃ g, l.getD j pm0 = g := ⟨_, rfl⟩
      rw [hg] at e0 e1 e3 U V
      clear hk hg
      obtain ⟨gn, gp, gb, gs⟩ := g
      cases he : gn.toList == s.toList with
      | true =>
        have HR : Hid _ := V.out he
        have KS : Hid (∀ w', Ex wr w' → (Ex wr w' ∧ w'.cell? ⟨b, o + j * 4, none⟩ = some (.string gn) ∧ w'.cell? ⟨b, o + j * 4 + 1, none⟩ = some (.slice a1 gp.length c1) ∧ w'.cell? ⟨b, o + j * 4 + 3, none⟩ = some (.slice a3 (tlen gs) c3))) := fun w' h => ⟨h, h.at e0, h.at e1, h.at e3⟩
        go_wp2_with fail
        go_region_held3 (fun w' => Ex wr w' ∧ w'.cell? ⟨b, o + j * 4, none⟩ = some (.string gn) ∧ w'.cell? ⟨b, o + j * 4 + 1, none⟩ = some (.slice a1 gp.length c1) ∧ w'.cell? ⟨b, o + j * 4 + 3, none⟩ = some (.slice a3 (tlen gs) c3)) ((refine KS.out _ ?_; first | exact (Ex.refl _).drew | exact Ex.trans (And.left ‹Ex _ _ ∧ _›) ‹Ex _ _› | exact (And.left ‹Ex _ _ ∧ _›))) (fail)
        have hx7 := And.left ‹Ex wr _ ∧ _›
        go_wp2_with fail
        refine bodyPost_ret (v := .tuple #[.int .i64 gp.length, .int .i64 (tlen gs), .bool true]) (by simp [results, Tryz.results22, go_sem]) rfl ?_
        rw [HR.out]
        exact ⟨rfl, E.out.trans hx7⟩
      | false =>
        have HU : Hid _ := U.out he
        go_wp2_with fail
        go_roundw
        case rel => exact ⟨j + 1, by omega, by go_num, HU.out, E.out⟩
        case measure => simp [intOf]; omega
    · have HR : Hid _ := arity_no hm (s := s) fun k hk => A.out k (by omega)
      go_wp2_with fail
      refine bodyPost_ret (v := .tuple #[.int .i64 0, .int .i64 0, .bool false]) (by simp [results, Tryz.results22, go_sem]) rfl ?_
      rw [HR.out]
      exact ⟨rfl, E.out⟩

end Go.Proofs.YtpibamhkmmgooaaGreatDoor
