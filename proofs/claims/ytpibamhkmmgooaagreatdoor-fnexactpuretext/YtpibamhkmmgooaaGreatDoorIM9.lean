/- Walks: the program's functions that are ok. -/
import Derived.Test.YtpibamhkmmgooaaGreatDoorIM8

import Derived.Test.YtpibamhkmmgooaaGreatDoorIS1

import Derived.Test.YtpibamhkmmgooaaGreatDoorBD6

namespace Go.Proofs.YtpibamhkmmgooaaGreatDoor

open Go.RowKit Go.Deep Go.Maps Go.WideMaps

attribute [local go_sem ↓] Go.wp_at_zero Go.wp_at_succ

/-- A function is ok behind those ahead, as the program asks it. -/
def chkB (fs : List PM) (g : PM) : Bool := !(arityR fs g.name).2.2 && (wordB g.name && (namesB g.params && bodyB fs 6 g.params g.binds g.says))
theorem chk_pure (l : List PM) (i : Nat) : chkB (l.take i) (l.getD i pm0) = pureAt l i := by
  simp only [chkB, pureAt, namesB]
  cases (arityR (l.take i) (l.getD i pm0).name).2.2 <;> cases wordB (l.getD i pm0).name <;> cases decide ((l.getD i pm0).params.length ≤ 60) <;> cases uniqB (l.getD i pm0).params <;> cases bodyB (l.take i) 6 (l.getD i pm0).params (l.getD i pm0).binds (l.getD i pm0).says <;> rfl
theorem QA_take {w : World} {lo : Nat} {l : List PM} {a : Option Addr} (h : QA w lo l a) (j : Nat) (hj : j ≤ l.length) : QA w lo (l.take j) a ∧ (l.take j).length = j := by
  have hl : (l.take j).length = j := by rw [List.length_take]; omega
  refine ⟨?_, hl⟩
  rcases h with h | ⟨b, o, e, hb, hc⟩
  · exact Or.inl (by omega)
  · refine Or.inr ⟨b, o, e, hb, fun i hi => ?_⟩
    have := hc i (by omega)
    simp only [List.getD] at this ⊢
    rw [List.getElem?_take_of_lt (by omega)]
    exact this
theorem pureAt_params {l : List PM} {i : Nat} (h : pureAt l i = true) : (l.getD i pm0).params.length ≤ 60 := by
  simp only [pureAt, Bool.and_eq_true, decide_eq_true_eq] at h
  exact h.2.2.1
theorem arity_60 {l : List PM} {j : Nat} (h : ∀ k, k < j → pureAt l k = true) (s : ByteArray) : (arityR (l.take j) s).1 ≤ 60 := by
  simp only [arityR]
  cases hf : (l.take j).find? (fun f => f.name.toList == s.toList) with
  | none => simp
  | some g =>
    have hm := List.mem_of_find?_eq_some hf
    obtain ⟨i, hi, rfl⟩ := List.getElem_of_mem hm
    rw [List.length_take] at hi
    have := pureAt_params (h i (by omega))
    simp only [List.getD, List.getElem?_eq_getElem (show i < l.length by omega), Option.getD_some] at this
    simp only [List.getElem_take]
    exact this

set_option maxRecDepth 100000 in
set_option maxHeartbeats 4000000 in
theorem checkPure_any (ea : Addr) (fs : List PM) (la : Option Addr) (lc : Nat) (hl : fs.length ≤ 1000000000) (h60 : ∀ s, (arityR fs s).1 ≤ 60) (gn : ByteArray) (gp : List ByteArray) (a1 : Option Addr) (k1 : Nat) (gb : BD) (a2 : Option Addr) (k2 : Nat) (gs : TM) (a3 : Option Addr) (k3 : Nat) (w : World)
    (hz : XLm gp) (hb : blen gb ≤ 1000000000) (hbm : BSm gb) (hbl : BLm gb) (hs : tlen gs ≤ 1000000000) (hsm : TSm gs) (hsl : TLm gs) (hG : w.cell? ⟨0, 0, none⟩ = some (EV ea)) (hQ : QA w 0 fs la) (hX : XA w 0 gp a1) (hB : BA w 0 gb a2) (hM : MA w 0 gs a3) :
    Calls Tryz.prog 45 #[.slice la fs.length lc, .agg #[.string gn, .slice a1 gp.length k1, .slice a2 (blen gb) k2, .slice a3 (tlen gs) k3]] w (ErrP ea (chkB fs ⟨gn, gp, gb, gs⟩) w) := by
  have G : Hid (∀ w', Ex w w' → w'.cell? ⟨0, 0, none⟩ = some (EV ea)) := fun w' h => h.at hG
  have X : Hid (∀ w', Ex w w' → XA w' 0 gp a1) := fun _ h => XA_below hX h
  have XF : Hid (∀ w1 w2 mb, Ex w w1 → w.heap.size ≤ mb → Fr mb w1 w2 → XA w2 0 gp a1) := fun w1 w2 mb h1 hm h2 => XA_below hX (h2.to_ex h1 hm)
  have QQ : Hid (∀ w', Ex w w' → QA w' 0 fs la) := fun _ h => QA_below hQ h
  have BY : Hid (∀ w' mb, Ex w w' → gp.length ≤ 60 → CM w' mb gp.length gp → Calls Tryz.prog 63 #[.agg #[.slice la fs.length lc, .map (some mb)], .agg #[.slice a2 (blen gb) k2, .slice a3 (tlen gs) k3], .int .i64 6] w' (ErrP ea (bodyB fs 6 gp gb gs) w')) := fun w' mb h hp hc => body_any ea fs la lc hl h60 6 mb gp gb a2 k2 gs a3 k3 w' (by omega) (by omega) hb hbm hbl hs hsm hsl (h.at hG) hc (QA_below hQ h) (BA_below hB h) (MA_below hM h)
  have ZP : Hid (XLm gp) := hz
  have N : Hid (Ex w (w.alloc (.cells #[.string gn, .slice a1 gp.length k1, .slice a2 (blen gb) k2, .slice a3 (tlen gs) k3] 43))) := Ex.new _ _
  have C : Hid (∀ w', Ex (w.alloc (.cells #[.string gn, .slice a1 gp.length k1, .slice a2 (blen gb) k2, .slice a3 (tlen gs) k3] 43)) w' → w'.cell? ⟨w.heap.size, 0, none⟩ = some (.string gn) ∧ w'.cell? ⟨w.heap.size, 1, none⟩ = some (.slice a1 gp.length k1) ∧ w'.cell? ⟨w.heap.size, 2, none⟩ = some (.slice a2 (blen gb) k2) ∧ w'.cell? ⟨w.heap.size, 3, none⟩ = some (.slice a3 (tlen gs) k3)) := fun w' h => ⟨h.at (by simp), h.at (by simp), h.at (by simp), h.at (by simp)⟩
  obtain ⟨R, hR⟩ : ∃ R, R = chkB fs ⟨gn, gp, gb, gs⟩ := ⟨_, rfl⟩
  have RR : Hid (R = (!(arityR fs gn).2.2 && (wordB gn && (namesB gp && bodyB fs 6 gp gb gs)))) := hR
  rw [← hR]
  obtain ⟨bn, hbn⟩ : ∃ b, namesB gp = b := ⟨_, rfl⟩
  have L60 : Hid (bn = true → gp.length ≤ 60) := fun h => by rw [← hbn] at h; simp only [namesB, Bool.and_eq_true, decide_eq_true_eq] at h; exact h.1
  have NO : Hid (∀ w', Ex w w' → Calls Tryz.prog 61 #[.slice a1 gp.length k1] w' fun e w'' => e = .returned (.bool bn) ∧ Ex w' w'') := fun w' h => by have := namesOk_any gp a1 k1 w' ZP.out (X.out w' h); rw [hbn] at this; exact this
  rw [hbn] at RR
  have hmm := @run_makeMap Tryz.prog
  clear hR hbn hz hb hbm hbl hs hsm hsl hG hQ hX hB hM h60 X
  go_enter Tryz.func45, Tryz.ntmps45
  go_wp2_with fail
  refine (named_any fs la lc gn _ hl (QQ.out _ N.out)).mono ?_
  rintro e w1 ⟨qn, q1, np, j1, q2, nb, j2, q3, nz, j3, ok, rfl, hg, hb1⟩
  have R1 : Hid (R = (!ok && (wordB gn && (bn && bodyB fs 6 gp gb gs)))) := RR.out.trans (by rw [hg])
  have X1 : Hid (Ex (w.alloc (.cells #[.string gn, .slice a1 gp.length k1, .slice a2 (blen gb) k2, .slice a3 (tlen gs) k3] 43)) (w1.alloc (.cells #[.string qn, .slice q1 np j1, .slice q2 nb j2, .slice q3 nz j3] 43))) := hb1.alloc _
  obtain ⟨c0, c1, c2, c3⟩ := C.out w1 hb1
  have z1 : w.heap.size < w1.heap.size := World.block_lt_of_cell? _ _ c0
  have g1 := G.out _ (N.out.trans X1.out)
  have gz : 0 < w1.heap.size := by omega
  have g0 := G.out w1 (N.out.trans hb1)
  clear hg hb1 RR
  cases ok with
  | true =>
    have HR : Hid (R = false) := R1.out
    go_wp2_with fail
    go_ret
    exact ⟨by rw [HR.out]; rfl, N.out.trans X1.out⟩
  | false =>
    go_wp2_with fail
    refine (nameOk_any gn _).mono ?_
    rintro e w2 ⟨rfl, hb2⟩
    have X2 : Hid (Ex (w.alloc (.cells #[.string gn, .slice a1 gp.length k1, .slice a2 (blen gb) k2, .slice a3 (tlen gs) k3] 43)) w2) := X1.out.trans hb2
    clear c0 c1 c2 c3 g0 g1 hb2 z1 gz
    obtain ⟨c0, c1, c2, c3⟩ := C.out w2 X2.out
    have g0 := G.out w2 (N.out.trans X2.out)
    cases hw : wordB gn with
    | false =>
      have HR : Hid (R = false) := R1.out.trans (by rw [hw]; rfl)
      clear hw
      go_wp2_with fail
      go_ret
      exact ⟨by rw [HR.out]; rfl, N.out.trans X2.out⟩
    | true =>
      have R2 : Hid (R = (bn && bodyB fs 6 gp gb gs)) := R1.out.trans (by rw [hw]; rfl)
      clear hw R1
      go_wp2_with fail
      refine (NO.out _ (N.out.trans X2.out)).mono ?_
      rintro e w3 ⟨rfl, hb3⟩
      have X3 : Hid (Ex (w.alloc (.cells #[.string gn, .slice a1 gp.length k1, .slice a2 (blen gb) k2, .slice a3 (tlen gs) k3] 43)) w3) := X2.out.trans hb3
      clear c0 c1 c2 c3 g0 hb3
      obtain ⟨c0, c1, c2, c3⟩ := C.out w3 X3.out
      have z3 : w.heap.size < w3.heap.size := World.block_lt_of_cell? _ _ c0
      have g0 := G.out w3 (N.out.trans X3.out)
      cases bn with
      | false =>
        have HR : Hid (R = false) := R2.out
        go_wp2_with fail
        go_ret
        exact ⟨by rw [HR.out]; rfl, N.out.trans X3.out⟩
      | true =>
        have h6 : gp.length ≤ 60 := L60.out (by first | trivial | rfl)
        have HR : Hid (R = bodyB fs 6 gp gb gs) := R2.out.trans (by first | rfl | simp)
        have BI : Hid (∀ w', Ex (w3.alloc (.map #[] 0)) w' → Calls Tryz.prog 62 #[.agg #[.slice la fs.length lc, .map (some w3.heap.size)], .slice a1 gp.length k1] w' (BindP w3.heap.size 0 [] gp w')) := fun w' h =>
          bind_any la fs.length lc w3.heap.size 0 [] gp a1 k1 w' ((CM_made w3).ex h) (fun w2 h2 => XF.out w' w2 _ (N.out.trans (X3.out.trans ((Ex.new _ _).trans h))) (by omega) h2) ZP.out (by omega) (by simp; omega)
        clear R2 L60 NO
        go_wp2_with fail
        refine Calls.mono (BI.out _ (Ex.new _ _)) ?_
        rintro e w4 ⟨rfl, hc4, hf4⟩
        have X4 : Hid (Ex (w.alloc (.cells #[.string gn, .slice a1 gp.length k1, .slice a2 (blen gb) k2, .slice a3 (tlen gs) k3] 43)) w4) := hf4.to_ex (X3.out.trans ((Ex.new _ _).alloc _)) (by rw [World.size_alloc]; omega)
        have hc5 : CM w4 w3.heap.size gp.length gp := by rw [Nat.zero_add, List.nil_append] at hc4; exact hc4
        have C5 : Hid _ := hc5
        have ci0 : w4.cell? ⟨w3.heap.size + 1, 0, none⟩ = some (.slice la fs.length lc) := hf4.at (by show w3.heap.size + 1 ≠ w3.heap.size; omega) (by simp)
        have ci1 : w4.cell? ⟨w3.heap.size + 1, 1, none⟩ = some (.map (some w3.heap.size)) := hf4.at (by show w3.heap.size + 1 ≠ w3.heap.size; omega) (by simp)
        clear hc4 hf4 hc5 c0 c1 c2 c3 BI hmm g0
        obtain ⟨c0, c1, c2, c3⟩ := C.out w4 X4.out
        go_wp2_with fail
        refine Calls.mono (BY.out _ _ (N.out.trans X4.out) h6 C5.out) ?_
        rintro e w5 ⟨rfl, hb5⟩
        go_wp2_with fail
        go_ret
        exact ⟨by rw [HR.out]; rfl, N.out.trans (X4.out.trans hb5)⟩

set_option maxRecDepth 100000 in
set_option maxHeartbeats 4000000 in
theorem checkPures_any (ea : Addr) (l : List PM) (a : Option Addr) (c : Nat) (w : World) (hl : l.length ≤ 1000000000) (hcap : l.length ≤ c) (hs : PSkTo l l.length) (hlm : ∀ j, j < l.length → PLm (l.getD j pm0)) (hG : w.cell? ⟨0, 0, none⟩ = some (EV ea)) (hQ : QA w 0 l a) :
    Calls Tryz.prog 30 #[.slice a l.length c] w (ErrP ea (pureB l) w) := by
  have G : Hid (∀ w', Ex w w' → w'.cell? ⟨0, 0, none⟩ = some (EV ea)) := fun w' h => h.at hG
  have Q : Hid (∀ w', Ex w w' → QA w' 0 l a) := fun _ h => QA_below hQ h
  have SK : Hid _ := hs
  have LM : Hid _ := hlm
  obtain ⟨R, hR⟩ : ∃ R, R = pureB l := ⟨_, rfl⟩
  have RR : Hid (R = pureB l) := hR
  rw [← hR]
  have g0 := hG
  clear hG hQ hs hlm hR
  by_cases h10 : 10 < l.length
  · have HR : Hid (R = false) := RR.out.trans (pureB_len h10)
    have e1 : decide ((10 : Int) < (l.length : Int)) = true := decide_eq_true (by omega)
    go_enter Tryz.func30, Tryz.ntmps30
    go_wp2_with fail
    go_ret
    exact ⟨by rw [HR.out]; rfl, Ex.refl _⟩
  have e1 : decide ((10 : Int) < (l.length : Int)) = false := decide_eq_false (by omega)
  clear g0
  go_enter Tryz.func30, Tryz.ntmps30
  go_wp2_with fail
  go_loopw [3, 4, 5, 12] (fun _ _ _ i wr => ∃ (j : Nat), j ≤ l.length ∧ i = .int .i64 j ∧ (∀ k, k < j → pureAt l k = true) ∧ Ex w wr) (fun _ _ _ i _ => l.length - (intOf i).toNat)
  case atStart => exact ⟨0, by omega, rfl, fun j hj => by omega, Ex.refl _⟩
  case round =>
    obtain ⟨j, hj, rfl, hall, hx⟩ := hrel
    have A : Hid (∀ k, k < j → pureAt l k = true) := hall
    have E : Hid (Ex w wr) := hx
    clear hall hx
    by_cases hlt : j < l.length
    · obtain ⟨b, o, rfl, _, hbs, hk⟩ := QA_at (Q.out wr E.out) (by omega)
      obtain ⟨b0, ⟨a1, k1, b1, hnc, x1⟩, ⟨a2, k2, b2, x2⟩, ⟨a3, k3, b3, x3⟩⟩ := hk j hlt
      obtain ⟨s1, ⟨s2, s3⟩, s4, s5⟩ := SK.out j hlt
      obtain ⟨l1, l2, l3, l4, l5, l6, l7⟩ := LM.out j hlt
      have U : Hid (pureAt l j = true → ∀ k, k < j + 1 → pureAt l k = true) := fun h => upto_succ A.out h
      have V : Hid (pureAt l j = false → R = false) := fun h => RR.out.trans (pureB_no hlt h)
      have HC : Hid (∀ w', Ex wr w' → Calls Tryz.prog 45 #[.slice (some ⟨b, o, none⟩) j c, .agg #[.string (l.getD j pm0).name, .slice a1 (l.getD j pm0).params.length k1, .slice a2 (blen (l.getD j pm0).binds) k2, .slice a3 (tlen (l.getD j pm0).says) k3]] w' (ErrP ea (pureAt l j) w')) := fun w' h => by
        have hq := QA_take (Q.out w' (E.out.trans h)) j hj
        have := checkPure_any ea (l.take j) (some ⟨b, o, none⟩) c (by omega) (arity_60 A.out) (l.getD j pm0).name (l.getD j pm0).params a1 k1 (l.getD j pm0).binds a2 k2 (l.getD j pm0).says a3 k3 w' l3 (by omega) s3 l5 (by omega) s5 l7 (G.out w' (E.out.trans h)) hq.1 (XA_below x1 h) (BA_below x2 h) (MA_below x3 h)
        rw [hq.2] at this
        have e := chk_pure l j
        rw [show (⟨(l.getD j pm0).name, (l.getD j pm0).params, (l.getD j pm0).binds, (l.getD j pm0).says⟩ : PM) = l.getD j pm0 from rfl, e] at this
        exact this
      obtain ⟨r, hr⟩ : ∃ r, pureAt l j = r := ⟨_, rfl⟩
      rw [hr] at U V HC
      obtain ⟨g, hg⟩ : ∃ g, l.getD j pm0 = g := ⟨_, rfl⟩
      rw [hg] at b0 b1 b2 b3 HC
      clear hk hg hr x1 x2 x3 s1 s2 s3 s4 s5 l1 l2 l3 l4 l5 l6 l7
      obtain ⟨gn, gp, gb, gs⟩ := g
      dsimp only at b0 b1 b2 b3 HC
      have hjc : j ≤ c := by omega
      have KS : Hid (∀ w', Ex (wr.alloc (.cells #[.string gn, .slice a1 gp.length k1, .slice a2 (blen gb) k2, .slice a3 (tlen gs) k3] 43)) w' → (Ex (wr.alloc (.cells #[.string gn, .slice a1 gp.length k1, .slice a2 (blen gb) k2, .slice a3 (tlen gs) k3] 43)) w' ∧ w'.cell? ⟨wr.heap.size, 0, none⟩ = some (.string gn) ∧ w'.cell? ⟨wr.heap.size, 1, none⟩ = some (.slice a1 gp.length k1) ∧ w'.cell? ⟨wr.heap.size, 2, none⟩ = some (.slice a2 (blen gb) k2) ∧ w'.cell? ⟨wr.heap.size, 3, none⟩ = some (.slice a3 (tlen gs) k3))) := fun w' h => ⟨h, h.at (by simp), h.at (by simp), h.at (by simp), h.at (by simp)⟩
      go_wp2_with fail
      clear b0 b1 b2 b3
      refine wp_region_held_drew (S := fun w' => Ex (wr.alloc (.cells #[.string gn, .slice a1 gp.length k1, .slice a2 (blen gb) k2, .slice a3 (tlen gs) k3] 43)) w' ∧ w'.cell? ⟨wr.heap.size, 0, none⟩ = some (.string gn) ∧ w'.cell? ⟨wr.heap.size, 1, none⟩ = some (.slice a1 gp.length k1) ∧ w'.cell? ⟨wr.heap.size, 2, none⟩ = some (.slice a2 (blen gb) k2) ∧ w'.cell? ⟨wr.heap.size, 3, none⟩ = some (.slice a3 (tlen gs) k3)) (by kernel_rfl) (KS.out _ (Ex.refl _).drew) (fun hHeld => ?_)
      refine wpAnyH_take (i := 0) (v := ?_) rfl (by kernel_rfl) (by kernel_rfl) (by kernel_rfl) (fun _ _ _ h => h) (Or.inl ⟨by rfl, ?_⟩) (by assumption) ?_
      rotate_left
      · (intro w' hSw; (try dsimp only at hSw); go_simp) <;> with_reducible rfl
      change wpAnyH Tryz.prog _ _ _ _ _ _ (Act.put _ (some 17) _) _
      (try simp only [Act.put, List.setIfInBounds_toArray, List.set_cons_zero, List.set_cons_succ])
      refine wpAnyH_take (i := 1) (v := ?_) rfl (by kernel_rfl) (by kernel_rfl) (by kernel_rfl) (fun _ _ _ h => h) (Or.inl ⟨by rfl, ?_⟩) (by assumption) ?_
      rotate_left
      · (intro w' hSw; (try dsimp only at hSw); go_simp) <;> with_reducible rfl
      change wpAnyH Tryz.prog _ _ _ _ _ _ (Act.put _ (some 18) _) _
      (try simp only [Act.put, List.setIfInBounds_toArray, List.set_cons_zero, List.set_cons_succ])
      refine wpAnyH_take (i := 2) (v := ?_) rfl (by kernel_rfl) (by kernel_rfl) (by kernel_rfl) (fun _ _ _ h => h) (Or.inl ⟨by rfl, ?_⟩) (by assumption) ?_
      rotate_left
      · (intro w' hSw; (try dsimp only at hSw); go_simp) <;> with_reducible rfl
      change wpAnyH Tryz.prog _ _ _ _ _ _ (Act.put _ (some 19) _) _
      (try simp only [Act.put, List.setIfInBounds_toArray, List.set_cons_zero, List.set_cons_succ])
      refine wpAnyH_take (i := 3) (v := ?_) rfl (by kernel_rfl) (by kernel_rfl) (by kernel_rfl) (fun _ _ _ h => h) (Or.inl ⟨by rfl, ?_⟩) (by assumption) ?_
      rotate_left
      · (intro w' hSw; (try dsimp only at hSw); go_simp) <;> with_reducible rfl
      change wpAnyH Tryz.prog _ _ _ _ _ _ (Act.put _ (some 20) _) _
      (try simp only [Act.put, List.setIfInBounds_toArray, List.set_cons_zero, List.set_cons_succ])
      refine wpAnyH_ready (rs := [4]) (by kernel_rfl) (by simp) ?_
      refine AllReadyH.cons (i := 4) rfl (fun K hK => ?_) AllReadyH.nil
      go_simp
      refine Calls.mono (HC.out _ ((Ex.new _ _).trans hHeld.1)) ?_
      rintro e w2 ⟨rfl, hb2⟩
      have hx2 := Ex.trans (And.left hHeld) hb2
      clear hHeld
      cases r with
      | false =>
        have HR : Hid (R = false) := V.out rfl
        clear U V HC
        simp only [errV, Bool.false_eq_true, if_false]
        go_wp2_with fail
        refine hK.out _ _ ?_ (fun hHeld => ?_)
        · exact KS.out _ hx2
        clear hK
        (try simp only [Act.put, List.setIfInBounds_toArray, List.set_cons_zero, List.set_cons_succ])
        refine wpAnyH_take (i := 5) (v := ?_) rfl (by kernel_rfl) (by kernel_rfl) (by kernel_rfl) (fun _ _ _ h => h) (Or.inl ⟨by rfl, ?_⟩) (by assumption) ?_
        rotate_left
        · (intro w' hSw; (try dsimp only at hSw); go_simp) <;> with_reducible rfl
        change wpAnyH Tryz.prog _ _ _ _ _ _ (Act.put _ (some 5) _) _
        (try simp only [Act.put, List.setIfInBounds_toArray, List.set_cons_zero, List.set_cons_succ])
        refine wpAnyH_done (by kernel_rfl) ?_ _
        go_wp2_with fail
        go_ret
        exact ⟨by rw [HR.out]; rfl, E.out.trans ((Ex.new _ _).trans hHeld.1)⟩
      | true =>
        have HU : Hid _ := U.out rfl
        clear U V HC
        simp only [errV, if_true]
        go_wp2_with fail
        refine hK.out _ _ ?_ (fun hHeld => ?_)
        · exact KS.out _ hx2
        clear hK
        (try simp only [Act.put, List.setIfInBounds_toArray, List.set_cons_zero, List.set_cons_succ])
        refine wpAnyH_take (i := 5) (v := ?_) rfl (by kernel_rfl) (by kernel_rfl) (by kernel_rfl) (fun _ _ _ h => h) (Or.inl ⟨by rfl, ?_⟩) (by assumption) ?_
        rotate_left
        · (intro w' hSw; (try dsimp only at hSw); go_simp) <;> with_reducible rfl
        change wpAnyH Tryz.prog _ _ _ _ _ _ (Act.put _ (some 5) _) _
        (try simp only [Act.put, List.setIfInBounds_toArray, List.set_cons_zero, List.set_cons_succ])
        refine wpAnyH_done (by kernel_rfl) ?_ _
        go_wp2_with fail
        go_roundw
        case rel => exact ⟨j + 1, by omega, by go_num, HU.out, E.out.trans ((Ex.new _ _).trans hHeld.1)⟩
        case measure => simp [intOf]; omega
    · have HR : Hid (R = true) := RR.out.trans (pureB_yes (by omega) fun i hi => A.out i (by omega))
      go_wp2_with fail
      go_ret
      exact ⟨by rw [HR.out]; rfl, E.out⟩

set_option maxRecDepth 100000 in
set_option maxHeartbeats 4000000 in
theorem iPureOk_any (ea : Addr) (l : List PM) (a : Option Addr) (c : Nat) (w : World) (hl : l.length ≤ 1000000000) (hcap : l.length ≤ c) (hs : PSkTo l l.length) (hlm : ∀ j, j < l.length → PLm (l.getD j pm0)) (hG : w.cell? ⟨0, 0, none⟩ = some (EV ea)) (hQ : QA w 0 l a) :
    Calls Tryz.prog 14 #[.slice a l.length c] w fun e w' => e = .returned (.bool (pureB l)) ∧ Ex w w' := by
  have CP : Hid (∀ w', Ex w w' → Calls Tryz.prog 30 #[.slice a l.length c] w' (ErrP ea (pureB l) w')) := fun w' h => checkPures_any ea l a c w' hl hcap hs hlm (h.at hG) (QA_below hQ h)
  have KS : Hid (∀ w', Ex w w' → (Ex w w' ∧ w'.cell? ⟨0, 0, none⟩ = some (EV ea))) := fun w' h => ⟨h, h.at hG⟩
  obtain ⟨R, hR⟩ : ∃ R, R = pureB l := ⟨_, rfl⟩
  rw [← hR] at CP ⊢
  clear hG hQ hs hlm hR hl hcap
  go_enter Tryz.func14, Tryz.ntmps14
  go_wp2_with fail
  refine wp_region_held_drew (S := fun w' => Ex w w' ∧ w'.cell? ⟨0, 0, none⟩ = some (EV ea)) (by kernel_rfl) (KS.out _ (Ex.refl _).drew) (fun hHeld => ?_)
  refine wpAnyH_take (i := 0) (v := ?_) rfl (by kernel_rfl) (by kernel_rfl) (by kernel_rfl) (fun _ _ _ h => h) (Or.inl ⟨by rfl, ?_⟩) (by assumption) ?_
  rotate_left
  · (intro w' hSw; (try dsimp only at hSw); go_simp) <;> with_reducible rfl
  change wpAnyH Tryz.prog _ _ _ _ _ _ (Act.put _ (some 3) _) _
  (try simp only [Act.put, List.setIfInBounds_toArray, List.set_cons_zero, List.set_cons_succ])
  refine wpAnyH_take (i := 2) (v := ?_) rfl (by kernel_rfl) (by kernel_rfl) (by kernel_rfl) (fun _ _ _ h => h) (Or.inl ⟨by rfl, ?_⟩) (by assumption) ?_
  rotate_left
  · (intro w' hSw; (try dsimp only at hSw); go_simp) <;> with_reducible rfl
  change wpAnyH Tryz.prog _ _ _ _ _ _ (Act.put _ (some 5) _) _
  (try simp only [Act.put, List.setIfInBounds_toArray, List.set_cons_zero, List.set_cons_succ])
  refine wpAnyH_ready (rs := [1]) (by kernel_rfl) (by simp) ?_
  refine AllReadyH.cons (i := 1) rfl (fun K hK => ?_) AllReadyH.nil
  go_simp
  refine Calls.mono (CP.out _ hHeld.1) ?_
  rintro e w2 ⟨rfl, hb2⟩
  have hx2 := Ex.trans (And.left hHeld) hb2
  clear hHeld CP
  cases R with
  | false =>
    simp only [errV, Bool.false_eq_true, if_false]
    go_wp2_with fail
    refine hK.out _ _ ?_ (fun hHeld => ?_)
    · exact KS.out _ hx2
    clear hK
    (try simp only [Act.put, List.setIfInBounds_toArray, List.set_cons_zero, List.set_cons_succ])
    refine wpAnyH_ready (rs := [3]) (by kernel_rfl) (by simp) ?_
    refine AllReadyH.cons (i := 3) rfl (fun K hK => ?_) AllReadyH.nil
    go_simp
    refine (is_same ea _).mono ?_
    rintro e w3 ⟨rfl, hb3⟩
    have hx3 := Ex.trans (And.left hHeld) hb3
    clear hHeld
    go_wp2_with fail
    refine hK.out _ _ ?_ (fun hHeld => ?_)
    · exact KS.out _ hx3
    clear hK
    (try simp only [Act.put, List.setIfInBounds_toArray, List.set_cons_zero, List.set_cons_succ])
    refine wpAnyH_take (i := 4) (v := ?_) rfl (by kernel_rfl) (by kernel_rfl) (by kernel_rfl) (fun _ _ _ h => h) (Or.inl ⟨by rfl, ?_⟩) (by assumption) ?_
    rotate_left
    · (intro w' hSw; (try dsimp only at hSw); go_simp) <;> with_reducible rfl
    change wpAnyH Tryz.prog _ _ _ _ _ _ (Act.put _ (some 7) _) _
    (try simp only [Act.put, List.setIfInBounds_toArray, List.set_cons_zero, List.set_cons_succ])
    refine wpAnyH_take (i := 5) (v := ?_) rfl (by kernel_rfl) (by kernel_rfl) (by kernel_rfl) (fun _ _ _ h => h) (Or.inl ⟨by rfl, ?_⟩) (by assumption) ?_
    rotate_left
    · (intro w' hSw; (try dsimp only at hSw); go_simp) <;> with_reducible rfl
    change wpAnyH Tryz.prog _ _ _ _ _ _ (Act.put _ (some 2) _) _
    (try simp only [Act.put, List.setIfInBounds_toArray, List.set_cons_zero, List.set_cons_succ])
    refine wpAnyH_done (by kernel_rfl) ?_ _
    go_wp2_with fail
    go_ret
    exact ⟨rfl, hHeld.1⟩
  | true =>
    simp only [errV, if_true]
    go_wp2_with fail
    refine hK.out _ _ ?_ (fun hHeld => ?_)
    · exact KS.out _ hx2
    clear hK
    (try simp only [Act.put, List.setIfInBounds_toArray, List.set_cons_zero, List.set_cons_succ])
    refine wpAnyH_ready (rs := [3]) (by kernel_rfl) (by simp) ?_
    refine AllReadyH.cons (i := 3) rfl (fun K hK => ?_) AllReadyH.nil
    go_simp
    refine (is_nil ea _).mono ?_
    rintro e w3 ⟨rfl, hb3⟩
    have hx3 := Ex.trans (And.left hHeld) hb3
    clear hHeld
    go_wp2_with fail
    refine hK.out _ _ ?_ (fun hHeld => ?_)
    · exact KS.out _ hx3
    clear hK
    (try simp only [Act.put, List.setIfInBounds_toArray, List.set_cons_zero, List.set_cons_succ])
    refine wpAnyH_take (i := 4) (v := ?_) rfl (by kernel_rfl) (by kernel_rfl) (by kernel_rfl) (fun _ _ _ h => h) (Or.inl ⟨by rfl, ?_⟩) (by assumption) ?_
    rotate_left
    · (intro w' hSw; (try dsimp only at hSw); go_simp) <;> with_reducible rfl
    change wpAnyH Tryz.prog _ _ _ _ _ _ (Act.put _ (some 7) _) _
    (try simp only [Act.put, List.setIfInBounds_toArray, List.set_cons_zero, List.set_cons_succ])
    refine wpAnyH_take (i := 5) (v := ?_) rfl (by kernel_rfl) (by kernel_rfl) (by kernel_rfl) (fun _ _ _ h => h) (Or.inl ⟨by rfl, ?_⟩) (by assumption) ?_
    rotate_left
    · (intro w' hSw; (try dsimp only at hSw); go_simp) <;> with_reducible rfl
    change wpAnyH Tryz.prog _ _ _ _ _ _ (Act.put _ (some 2) _) _
    (try simp only [Act.put, List.setIfInBounds_toArray, List.set_cons_zero, List.set_cons_succ])
    refine wpAnyH_done (by kernel_rfl) ?_ _
    go_wp2_with fail
    go_ret
    exact ⟨rfl, hHeld.1⟩

end Go.Proofs.YtpibamhkmmgooaaGreatDoor
