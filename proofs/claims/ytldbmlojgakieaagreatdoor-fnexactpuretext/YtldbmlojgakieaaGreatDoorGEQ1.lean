/- Walks: the program's functions that are ok. Walks: the program's text of functions. Walks: the same texts and terms compared. -/
import Derived.Test.YtldbmlojgakieaaGreatDoorGIS1
import Derived.Test.YtldbmlojgakieaaGreatDoorBD6
import Derived.Test.YtldbmlojgakieaaGreatDoorGTM3
import Derived.Test.YtldbmlojgakieaaGreatDoorGPT2
import Derived.Deep.RegionHeld3
namespace Go.Proofs.YtldbmlojgakieaaGreatDoor

open Go.RowKit Go.Deep Go.Maps Go.WideMaps

attribute [local go_sem ↓] Go.wp_at_zero Go.wp_at_succ

/-- A function is ok behind those ahead, as the program asks it. -/
def chkB (fs : List PM) (g : PM) : Bool := !(arityR fs g.name).2.2 && (wordB g.name && (namesB g.params && bodyB fs 6 g.params g.binds g.says))
theorem chk_pure (l : List PM) (i : Nat) : chkB (l.take i) (l.getD i pm0) = pureAt l i := by
  simp only [chkB, pureAt, namesB]
  cases (arityR (l.take i) (l.getD i pm0).name).2.2 <;> cases wordB (l.getD i pm0).name <;> cases decide ((l.getD i pm0).params.length ≤ 60) <;> cases uniqB (l.getD i pm0).params <;> cases bodyB (l.take i) 6 (l.getD i pm0).params (l.getD i pm0).binds (l.getD i pm0).says <;> rfl
theorem QA_take {w : World} {lo : Nat} {l : List PM} {a : Option Addr} (h : QA w lo l a) (j : Nat) (hj : j ≤ l.length) : QA w lo (l.take j) a ∧ (l.take j).length = j := by
  have hl : (l.take j).length = j := by rw [List.length_take]; omega
  refine ⟨?_, hl⟩
  rcases h with h | ⟨b, o, e, hb, hc⟩
  · exact Or.inl (by omega)
  · refine Or.inr ⟨b, o, e, hb, fun i hi => ?_⟩
    have := hc i (by omega)
    simp only [List.getD] at this ⊢
    rw [List.getElem?_take_of_lt (by omega)]
    exact this
theorem pureAt_params {l : List PM} {i : Nat} (h : pureAt l i = true) : (l.getD i pm0).params.length ≤ 60 := by
  simp only [pureAt, Bool.and_eq_true, decide_eq_true_eq] at h
  exact h.2.2.1
theorem arity_60 {l : List PM} {j : Nat} (h : ∀ k, k < j → pureAt l k = true) (s : ByteArray) : (arityR (l.take j) s).1 ≤ 60 := by
  simp only [arityR]
  cases hf : (l.take j).find? (fun f => f.name.toList == s.toList) with
  | none => simp
  | some g =>
    have hm := List.mem_of_find?_eq_some hf
    obtain ⟨i, hi, rfl⟩ := List.getElem_of_mem hm
    rw [List.length_take] at hi
    have := pureAt_params (h i (by omega))
    simp only [List.getD, List.getElem?_eq_getElem (show i < l.length by omega), Option.getD_some] at this
    simp only [List.getElem_take]
    exact this

set_option maxRecDepth 100000 in
set_option maxHeartbeats 4000000 in
theorem checkPure_any (ea : Addr) (fs : List PM) (la : Option Addr) (lc : Nat) (hl : fs.length ≤ 1000000000) (h60 : ∀ s, (arityR fs s).1 ≤ 60) (gn : ByteArray) (gp : List ByteArray) (a1 : Option Addr) (k1 : Nat) (gb : BD) (a2 : Option Addr) (k2 : Nat) (gs : TM) (a3 : Option Addr) (k3 : Nat) (w : World)
    (hz : XLm gp) (hb : blen gb ≤ 1000000000) (hbm : BSm gb) (hbl : BLm gb) (hs : tlen gs ≤ 1000000000) (hsm : TSm gs) (hsl : TLm gs) (hG : w.cell? ⟨0, 0, none⟩ = some (EV ea)) (hQ : QA w 0 fs la) (hX : XA w 0 gp a1) (hB : BA w 0 gb a2) (hM : MA w 0 gs a3) :
    Calls Tryz.prog 77 #[.slice la fs.length lc, .agg #[.string gn, .slice a1 gp.length k1, .slice a2 (blen gb) k2, .slice a3 (tlen gs) k3]] w (ErrP ea (chkB fs ⟨gn, gp, gb, gs⟩) w) := by
  have G : Hid (∀ w', Ex w w' → w'.cell? ⟨0, 0, none⟩ = some (EV ea)) := fun w' h => h.at hG
  have X : Hid (∀ w', Ex w w' → XA w' 0 gp a1) := fun _ h => XA_below hX h
  have XF : Hid (∀ w1 w2 mb, Ex w w1 → w.heap.size ≤ mb → Fr mb w1 w2 → XA w2 0 gp a1) := fun w1 w2 mb h1 hm h2 => XA_below hX (h2.to_ex h1 hm)
  have QQ : Hid (∀ w', Ex w w' → QA w' 0 fs la) := fun _ h => QA_below hQ h
  have BY : Hid (∀ w' mb, Ex w w' → gp.length ≤ 60 → CM w' mb gp.length gp → Calls Tryz.prog 101 #[.agg #[.slice la fs.length lc, .map (some mb)], .agg #[.slice a2 (blen gb) k2, .slice a3 (tlen gs) k3], .int .i64 6] w' (ErrP ea (bodyB fs 6 gp gb gs) w')) := fun w' mb h hp hc => body_any ea fs la lc hl h60 6 mb gp gb a2 k2 gs a3 k3 w' (by omega) (by omega) hb hbm hbl hs hsm hsl (h.at hG) hc (QA_below hQ h) (BA_below hB h) (MA_below hM h)
  have ZP : Hid (XLm gp) := hz
  have N : Hid (Ex w (w.alloc (.cells #[.string gn, .slice a1 gp.length k1, .slice a2 (blen gb) k2, .slice a3 (tlen gs) k3] 61))) := Ex.new _ _
  have C : Hid (∀ w', Ex (w.alloc (.cells #[.string gn, .slice a1 gp.length k1, .slice a2 (blen gb) k2, .slice a3 (tlen gs) k3] 61)) w' → w'.cell? ⟨w.heap.size, 0, none⟩ = some (.string gn) ∧ w'.cell? ⟨w.heap.size, 1, none⟩ = some (.slice a1 gp.length k1) ∧ w'.cell? ⟨w.heap.size, 2, none⟩ = some (.slice a2 (blen gb) k2) ∧ w'.cell? ⟨w.heap.size, 3, none⟩ = some (.slice a3 (tlen gs) k3)) := fun w' h => ⟨h.at (by simp), h.at (by simp), h.at (by simp), h.at (by simp)⟩
  obtain ⟨R, hR⟩ : ∃ R, R = chkB fs ⟨gn, gp, gb, gs⟩ := ⟨_, rfl⟩
  have RR : Hid (R = (!(arityR fs gn).2.2 && (wordB gn && (namesB gp && bodyB fs 6 gp gb gs)))) := hR
  rw [← hR]
  obtain ⟨bn, hbn⟩ : ∃ b, namesB gp = b := ⟨_, rfl⟩
  have L60 : Hid (bn = true → gp.length ≤ 60) := fun h => by rw [← hbn] at h; simp only [namesB, Bool.and_eq_true, decide_eq_true_eq] at h; exact h.1
  have NO : Hid (∀ w', Ex w w' → Calls Tryz.prog 99 #[.slice a1 gp.length k1] w' fun e w'' => e = .returned (.bool bn) ∧ Ex w' w'') := fun w' h => by have := namesOk_any gp a1 k1 w' ZP.out (X.out w' h); rw [hbn] at this; exact this
  rw [hbn] at RR
  have hmm := @run_makeMap Tryz.prog
  clear hR hbn hz hb hbm hbl hs hsm hsl hG hQ hX hB hM h60 X
  go_enter Tryz.func77, Tryz.ntmps77
  go_wp2_with fail
  refine (named_any fs la lc gn _ hl (QQ.out _ N.out)).mono ?_
  rintro e w1 ⟨qn, q1, np, j1, q2, nb, j2, q3, nz, j3, ok, rfl, hg, hb1⟩
  have R1 : Hid (R = (!ok && (wordB gn && (bn && bodyB fs 6 gp gb gs)))) := RR.out.trans (by rw [hg])
  have X1 : Hid (Ex (w.alloc (.cells #[.string gn, .slice a1 gp.length k1, .slice a2 (blen gb) k2, .slice a3 (tlen gs) k3] 61)) (w1.alloc (.cells #[.string qn, .slice q1 np j1, .slice q2 nb j2, .slice q3 nz j3] 61))) := hb1.alloc _
  obtain ⟨c0, c1, c2, c3⟩ := C.out w1 hb1
  have z1 : w.heap.size < w1.heap.size := World.block_lt_of_cell? _ _ c0
  have g1 := G.out _ (N.out.trans X1.out)
  have gz : 0 < w1.heap.size := by omega
  have g0 := G.out w1 (N.out.trans hb1)
  clear hg hb1 RR
  cases ok with
  | true =>
    have HR : Hid (R = false) := R1.out
    go_wp2_with fail
    go_ret
    exact ⟨by rw [HR.out]; rfl, N.out.trans X1.out⟩
  | false =>
    go_wp2_with fail
    refine (nameOk_any gn _).mono ?_
    rintro e w2 ⟨rfl, hb2⟩
    have X2 : Hid (Ex (w.alloc (.cells #[.string gn, .slice a1 gp.length k1, .slice a2 (blen gb) k2, .slice a3 (tlen gs) k3] 61)) w2) := X1.out.trans hb2
    clear c0 c1 c2 c3 g0 g1 hb2 z1 gz
    obtain ⟨c0, c1, c2, c3⟩ := C.out w2 X2.out
    have g0 := G.out w2 (N.out.trans X2.out)
    cases hw : wordB gn with
    | false =>
      have HR : Hid (R = false) := R1.out.trans (by rw [hw]; rfl)
      clear hw
      go_wp2_with fail
      go_ret
      exact ⟨by rw [HR.out]; rfl, N.out.trans X2.out⟩
    | true =>
      have R2 : Hid (R = (bn && bodyB fs 6 gp gb gs)) := R1.out.trans (by rw [hw]; rfl)
      clear hw R1
      go_wp2_with fail
      refine (NO.out _ (N.out.trans X2.out)).mono ?_
      rintro e w3 ⟨rfl, hb3⟩
      have X3 : Hid (Ex (w.alloc (.cells #[.string gn, .slice a1 gp.length k1, .slice a2 (blen gb) k2, .slice a3 (tlen gs) k3] 61)) w3) := X2.out.trans hb3
      clear c0 c1 c2 c3 g0 hb3
      obtain ⟨c0, c1, c2, c3⟩ := C.out w3 X3.out
      have z3 : w.heap.size < w3.heap.size := World.block_lt_of_cell? _ _ c0
      have g0 := G.out w3 (N.out.trans X3.out)
      cases bn with
      | false =>
        have HR : Hid (R = false) := R2.out
        go_wp2_with fail
        go_ret
        exact ⟨by rw [HR.out]; rfl, N.out.trans X3.out⟩
      | true =>
        have h6 : gp.length ≤ 60 := L60.out (by first | trivial | rfl)
        have HR : Hid (R = bodyB fs 6 gp gb gs) := R2.out.trans (by first | rfl | simp)
        have BI : Hid (∀ w', Ex (w3.alloc (.map #[] 0)) w' → Calls Tryz.prog 100 #[.agg #[.slice la fs.length lc, .map (some w3.heap.size)], .slice a1 gp.length k1] w' (BindP w3.heap.size 0 [] gp w')) := fun w' h =>
          bind_any la fs.length lc w3.heap.size 0 [] gp a1 k1 w' ((CM_made w3).ex h) (fun w2 h2 => XF.out w' w2 _ (N.out.trans (X3.out.trans ((Ex.new _ _).trans h))) (by omega) h2) ZP.out (by omega) (by simp; omega)
        clear R2 L60 NO
        go_wp2_with fail
        refine Calls.mono (BI.out _ (Ex.new _ _)) ?_
        rintro e w4 ⟨rfl, hc4, hf4⟩
        have X4 : Hid (Ex (w.alloc (.cells #[.string gn, .slice a1 gp.length k1, .slice a2 (blen gb) k2, .slice a3 (tlen gs) k3] 61)) w4) := hf4.to_ex (X3.out.trans ((Ex.new _ _).alloc _)) (by rw [World.size_alloc]; omega)
        have hc5 : CM w4 w3.heap.size gp.length gp := by rw [Nat.zero_add, List.nil_append] at hc4; exact hc4
        have C5 : Hid _ := hc5
        have ci0 : w4.cell? ⟨w3.heap.size + 1, 0, none⟩ = some (.slice la fs.length lc) := hf4.at (by show w3.heap.size + 1 ≠ w3.heap.size; omega) (by simp)
        have ci1 : w4.cell? ⟨w3.heap.size + 1, 1, none⟩ = some (.map (some w3.heap.size)) := hf4.at (by show w3.heap.size + 1 ≠ w3.heap.size; omega) (by simp)
        clear hc4 hf4 hc5 c0 c1 c2 c3 BI hmm g0
        obtain ⟨c0, c1, c2, c3⟩ := C.out w4 X4.out
        go_wp2_with fail
        refine Calls.mono (BY.out _ _ (N.out.trans X4.out) h6 C5.out) ?_
        rintro e w5 ⟨rfl, hb5⟩
        go_wp2_with fail
        go_ret
        exact ⟨by rw [HR.out]; rfl, N.out.trans (X4.out.trans hb5)⟩

set_option maxRecDepth 100000 in
set_option maxHeartbeats 4000000 in
theorem checkPures_any (ea : Addr) (l : List PM) (a : Option Addr) (c : Nat) (w : World) (hl : l.length ≤ 1000000000) (hcap : l.length ≤ c) (hs : PSkTo l l.length) (hlm : ∀ j, j < l.length → PLm (l.getD j pm0)) (hG : w.cell? ⟨0, 0, none⟩ = some (EV ea)) (hQ : QA w 0 l a) :
    Calls Tryz.prog 55 #[.slice a l.length c] w (ErrP ea (pureB l) w) := by
  have G : Hid (∀ w', Ex w w' → w'.cell? ⟨0, 0, none⟩ = some (EV ea)) := fun w' h => h.at hG
  have Q : Hid (∀ w', Ex w w' → QA w' 0 l a) := fun _ h => QA_below hQ h
  have SK : Hid _ := hs
  have LM : Hid _ := hlm
  obtain ⟨R, hR⟩ : ∃ R, R = pureB l := ⟨_, rfl⟩
  have RR : Hid (R = pureB l) := hR
  rw [← hR]
  have g0 := hG
  clear hG hQ hs hlm hR
  by_cases h10 : 10 < l.length
  · have HR : Hid (R = false) := RR.out.trans (pureB_len h10)
    have e1 : decide ((10 : Int) < (l.length : Int)) = true := decide_eq_true (by omega)
    go_enter Tryz.func55, Tryz.ntmps55
    go_wp2_with fail
    go_ret
    exact ⟨by rw [HR.out]; rfl, Ex.refl _⟩
  have e1 : decide ((10 : Int) < (l.length : Int)) = false := decide_eq_false (by omega)
  clear g0
  go_enter Tryz.func55, Tryz.ntmps55
  go_wp2_with fail
  go_loopw [3, 4, 5, 12] (fun _ _ _ i wr => ∃ (j : Nat), j ≤ l.length ∧ i = .int .i64 j ∧ (∀ k, k < j → pureAt l k = true) ∧ Ex w wr) (fun _ _ _ i _ => l.length - (intOf i).toNat)
  case atStart => exact ⟨0, by omega, rfl, fun j hj => by omega, Ex.refl _⟩
  case round =>
    obtain ⟨j, hj, rfl, hall, hx⟩ := hrel
    have A : Hid (∀ k, k < j → pureAt l k = true) := hall
    have E : Hid (Ex w wr) := hx
    clear hall hx
    by_cases hlt : j < l.length
    · obtain ⟨b, o, rfl, _, hbs, hk⟩ := QA_at (Q.out wr E.out) (by omega)
      obtain ⟨b0, ⟨a1, k1, b1, hnc, x1⟩, ⟨a2, k2, b2, x2⟩, ⟨a3, k3, b3, x3⟩⟩ := hk j hlt
      obtain ⟨s1, ⟨s2, s3⟩, s4, s5⟩ := SK.out j hlt
      obtain ⟨l1, l2, l3, l4, l5, l6, l7⟩ := LM.out j hlt
      have U : Hid (pureAt l j = true → ∀ k, k < j + 1 → pureAt l k = true) := fun h => upto_succ A.out h
      have V : Hid (pureAt l j = false → R = false) := fun h => RR.out.trans (pureB_no hlt h)
      have HC : Hid (∀ w', Ex wr w' → Calls Tryz.prog 77 #[.slice (some ⟨b, o, none⟩) j c, .agg #[.string (l.getD j pm0).name, .slice a1 (l.getD j pm0).params.length k1, .slice a2 (blen (l.getD j pm0).binds) k2, .slice a3 (tlen (l.getD j pm0).says) k3]] w' (ErrP ea (pureAt l j) w')) := fun w' h => by
        have hq := QA_take (Q.out w' (E.out.trans h)) j hj
        have := checkPure_any ea (l.take j) (some ⟨b, o, none⟩) c (by omega) (arity_60 A.out) (l.getD j pm0).name (l.getD j pm0).params a1 k1 (l.getD j pm0).binds a2 k2 (l.getD j pm0).says a3 k3 w' l3 (by omega) s3 l5 (by omega) s5 l7 (G.out w' (E.out.trans h)) hq.1 (XA_below x1 h) (BA_below x2 h) (MA_below x3 h)
        rw [hq.2] at this
        have e := chk_pure l j
        rw [show (⟨(l.getD j pm0).name, (l.getD j pm0).params, (l.getD j pm0).binds, (l.getD j pm0).says⟩ : PM) = l.getD j pm0 from rfl, e] at this
        exact this
      obtain ⟨r, hr⟩ : ∃ r, pureAt l j = r := ⟨_, rfl⟩
      rw [hr] at U V HC
      obtain ⟨g, hg⟩ : ∃ g, l.getD j pm0 = g := ⟨_, rfl⟩
      rw [hg] at b0 b1 b2 b3 HC
      clear hk hg hr x1 x2 x3 s1 s2 s3 s4 s5 l1 l2 l3 l4 l5 l6 l7
      obtain ⟨gn, gp, gb, gs⟩ := g
      dsimp only at b0 b1 b2 b3 HC
      have hjc : j ≤ c := by omega
      have KS : Hid (∀ w', Ex (wr.alloc (.cells #[.string gn, .slice a1 gp.length k1, .slice a2 (blen gb) k2, .slice a3 (tlen gs) k3] 61)) w' → (Ex (wr.alloc (.cells #[.string gn, .slice a1 gp.length k1, .slice a2 (blen gb) k2, .slice a3 (tlen gs) k3] 61)) w' ∧ w'.cell? ⟨wr.heap.size, 0, none⟩ = some (.string gn) ∧ w'.cell? ⟨wr.heap.size, 1, none⟩ = some (.slice a1 gp.length k1) ∧ w'.cell? ⟨wr.heap.size, 2, none⟩ = some (.slice a2 (blen gb) k2) ∧ w'.cell? ⟨wr.heap.size, 3, none⟩ = some (.slice a3 (tlen gs) k3))) := fun w' h => ⟨h, h.at (by simp), h.at (by simp), h.at (by simp), h.at (by simp)⟩
      go_wp2_with fail
      clear b0 b1 b2 b3
      refine wp_region_held_drew (S := fun w' => Ex (wr.alloc (.cells #[.string gn, .slice a1 gp.length k1, .slice a2 (blen gb) k2, .slice a3 (tlen gs) k3] 61)) w' ∧ w'.cell? ⟨wr.heap.size, 0, none⟩ = some (.string gn) ∧ w'.cell? ⟨wr.heap.size, 1, none⟩ = some (.slice a1 gp.length k1) ∧ w'.cell? ⟨wr.heap.size, 2, none⟩ = some (.slice a2 (blen gb) k2) ∧ w'.cell? ⟨wr.heap.size, 3, none⟩ = some (.slice a3 (tlen gs) k3)) (by kernel_rfl) (KS.out _ (Ex.refl _).drew) (fun hHeld => ?_)
      refine wpAnyH_take (i := 0) (v := ?_) rfl (by kernel_rfl) (by kernel_rfl) (by kernel_rfl) (fun _ _ _ h => h) (Or.inl ⟨by rfl, ?_⟩) (by assumption) ?_
      rotate_left
      · (intro w' hSw; (try dsimp only at hSw); go_simp) <;> with_reducible rfl
      change wpAnyH Tryz.prog _ _ _ _ _ _ (Act.put _ (some 17) _) _
      (try simp only [Act.put, List.setIfInBounds_toArray, List.set_cons_zero, List.set_cons_succ])
      refine wpAnyH_take (i := 1) (v := ?_) rfl (by kernel_rfl) (by kernel_rfl) (by kernel_rfl) (fun _ _ _ h => h) (Or.inl ⟨by rfl, ?_⟩) (by assumption) ?_
      rotate_left
      · (intro w' hSw; (try dsimp only at hSw); go_simp) <;> with_reducible rfl
      change wpAnyH Tryz.prog _ _ _ _ _ _ (Act.put _ (some 18) _) _
      (try simp only [Act.put, List.setIfInBounds_toArray, List.set_cons_zero, List.set_cons_succ])
      refine wpAnyH_take (i := 2) (v := ?_) rfl (by kernel_rfl) (by kernel_rfl) (by kernel_rfl) (fun _ _ _ h => h) (Or.inl ⟨by rfl, ?_⟩) (by assumption) ?_
      rotate_left
      · (intro w' hSw; (try dsimp only at hSw); go_simp) <;> with_reducible rfl
      change wpAnyH Tryz.prog _ _ _ _ _ _ (Act.put _ (some 19) _) _
      (try simp only [Act.put, List.setIfInBounds_toArray, List.set_cons_zero, List.set_cons_succ])
      refine wpAnyH_take (i := 3) (v := ?_) rfl (by kernel_rfl) (by kernel_rfl) (by kernel_rfl) (fun _ _ _ h => h) (Or.inl ⟨by rfl, ?_⟩) (by assumption) ?_
      rotate_left
      · (intro w' hSw; (try dsimp only at hSw); go_simp) <;> with_reducible rfl
      change wpAnyH Tryz.prog _ _ _ _ _ _ (Act.put _ (some 20) _) _
      (try simp only [Act.put, List.setIfInBounds_toArray, List.set_cons_zero, List.set_cons_succ])
      refine wpAnyH_ready (rs := [4]) (by kernel_rfl) (by simp) ?_
      refine AllReadyH.cons (i := 4) rfl (fun K hK => ?_) AllReadyH.nil
      go_simp
      refine Calls.mono (HC.out _ ((Ex.new _ _).trans hHeld.1)) ?_
      rintro e w2 ⟨rfl, hb2⟩
      have hx2 := Ex.trans (And.left hHeld) hb2
      clear hHeld
      cases r with
      | false =>
        have HR : Hid (R = false) := V.out rfl
        clear U V HC
        simp only [errV, Bool.false_eq_true, if_false]
        go_wp2_with fail
        refine hK.out _ _ ?_ (fun hHeld => ?_)
        · exact KS.out _ hx2
        clear hK
        (try simp only [Act.put, List.setIfInBounds_toArray, List.set_cons_zero, List.set_cons_succ])
        refine wpAnyH_take (i := 5) (v := ?_) rfl (by kernel_rfl) (by kernel_rfl) (by kernel_rfl) (fun _ _ _ h => h) (Or.inl ⟨by rfl, ?_⟩) (by assumption) ?_
        rotate_left
        · (intro w' hSw; (try dsimp only at hSw); go_simp) <;> with_reducible rfl
        change wpAnyH Tryz.prog _ _ _ _ _ _ (Act.put _ (some 5) _) _
        (try simp only [Act.put, List.setIfInBounds_toArray, List.set_cons_zero, List.set_cons_succ])
        refine wpAnyH_done (by kernel_rfl) ?_ _
        go_wp2_with fail
        go_ret
        exact ⟨by rw [HR.out]; rfl, E.out.trans ((Ex.new _ _).trans hHeld.1)⟩
      | true =>
        have HU : Hid _ := U.out rfl
        clear U V HC
        simp only [errV, if_true]
        go_wp2_with fail
        refine hK.out _ _ ?_ (fun hHeld => ?_)
        · exact KS.out _ hx2
        clear hK
        (try simp only [Act.put, List.setIfInBounds_toArray, List.set_cons_zero, List.set_cons_succ])
        refine wpAnyH_take (i := 5) (v := ?_) rfl (by kernel_rfl) (by kernel_rfl) (by kernel_rfl) (fun _ _ _ h => h) (Or.inl ⟨by rfl, ?_⟩) (by assumption) ?_
        rotate_left
        · (intro w' hSw; (try dsimp only at hSw); go_simp) <;> with_reducible rfl
        change wpAnyH Tryz.prog _ _ _ _ _ _ (Act.put _ (some 5) _) _
        (try simp only [Act.put, List.setIfInBounds_toArray, List.set_cons_zero, List.set_cons_succ])
        refine wpAnyH_done (by kernel_rfl) ?_ _
        go_wp2_with fail
        go_roundw
        case rel => exact ⟨j + 1, by omega, by go_num, HU.out, E.out.trans ((Ex.new _ _).trans hHeld.1)⟩
        case measure => simp [intOf]; omega
    · have HR : Hid (R = true) := RR.out.trans (pureB_yes (by omega) fun i hi => A.out i (by omega))
      go_wp2_with fail
      go_ret
      exact ⟨by rw [HR.out]; rfl, E.out⟩

set_option maxRecDepth 100000 in
set_option maxHeartbeats 4000000 in
theorem iPureOk_any (ea : Addr) (l : List PM) (a : Option Addr) (c : Nat) (w : World) (hl : l.length ≤ 1000000000) (hcap : l.length ≤ c) (hs : PSkTo l l.length) (hlm : ∀ j, j < l.length → PLm (l.getD j pm0)) (hG : w.cell? ⟨0, 0, none⟩ = some (EV ea)) (hQ : QA w 0 l a) :
    Calls Tryz.prog 39 #[.slice a l.length c] w fun e w' => e = .returned (.bool (pureB l)) ∧ Ex w w' := by
  have CP : Hid (∀ w', Ex w w' → Calls Tryz.prog 55 #[.slice a l.length c] w' (ErrP ea (pureB l) w')) := fun w' h => checkPures_any ea l a c w' hl hcap hs hlm (h.at hG) (QA_below hQ h)
  have KS : Hid (∀ w', Ex w w' → (Ex w w' ∧ w'.cell? ⟨0, 0, none⟩ = some (EV ea))) := fun w' h => ⟨h, h.at hG⟩
  obtain ⟨R, hR⟩ : ∃ R, R = pureB l := ⟨_, rfl⟩
  rw [← hR] at CP ⊢
  clear hG hQ hs hlm hR hl hcap
  go_enter Tryz.func39, Tryz.ntmps39
  go_wp2_with fail
  refine wp_region_held_drew (S := fun w' => Ex w w' ∧ w'.cell? ⟨0, 0, none⟩ = some (EV ea)) (by kernel_rfl) (KS.out _ (Ex.refl _).drew) (fun hHeld => ?_)
  refine wpAnyH_take (i := 0) (v := ?_) rfl (by kernel_rfl) (by kernel_rfl) (by kernel_rfl) (fun _ _ _ h => h) (Or.inl ⟨by rfl, ?_⟩) (by assumption) ?_
  rotate_left
  · (intro w' hSw; (try dsimp only at hSw); go_simp) <;> with_reducible rfl
  change wpAnyH Tryz.prog _ _ _ _ _ _ (Act.put _ (some 3) _) _
  (try simp only [Act.put, List.setIfInBounds_toArray, List.set_cons_zero, List.set_cons_succ])
  refine wpAnyH_take (i := 2) (v := ?_) rfl (by kernel_rfl) (by kernel_rfl) (by kernel_rfl) (fun _ _ _ h => h) (Or.inl ⟨by rfl, ?_⟩) (by assumption) ?_
  rotate_left
  · (intro w' hSw; (try dsimp only at hSw); go_simp) <;> with_reducible rfl
  change wpAnyH Tryz.prog _ _ _ _ _ _ (Act.put _ (some 5) _) _
  (try simp only [Act.put, List.setIfInBounds_toArray, List.set_cons_zero, List.set_cons_succ])
  refine wpAnyH_ready (rs := [1]) (by kernel_rfl) (by simp) ?_
  refine AllReadyH.cons (i := 1) rfl (fun K hK => ?_) AllReadyH.nil
  go_simp
  refine Calls.mono (CP.out _ hHeld.1) ?_
  rintro e w2 ⟨rfl, hb2⟩
  have hx2 := Ex.trans (And.left hHeld) hb2
  clear hHeld CP
  cases R with
  | false =>
    simp only [errV, Bool.false_eq_true, if_false]
    go_wp2_with fail
    refine hK.out _ _ ?_ (fun hHeld => ?_)
    · exact KS.out _ hx2
    clear hK
    (try simp only [Act.put, List.setIfInBounds_toArray, List.set_cons_zero, List.set_cons_succ])
    refine wpAnyH_ready (rs := [3]) (by kernel_rfl) (by simp) ?_
    refine AllReadyH.cons (i := 3) rfl (fun K hK => ?_) AllReadyH.nil
    go_simp
    refine (is_same ea _).mono ?_
    rintro e w3 ⟨rfl, hb3⟩
    have hx3 := Ex.trans (And.left hHeld) hb3
    clear hHeld
    go_wp2_with fail
    refine hK.out _ _ ?_ (fun hHeld => ?_)
    · exact KS.out _ hx3
    clear hK
    (try simp only [Act.put, List.setIfInBounds_toArray, List.set_cons_zero, List.set_cons_succ])
    refine wpAnyH_take (i := 4) (v := ?_) rfl (by kernel_rfl) (by kernel_rfl) (by kernel_rfl) (fun _ _ _ h => h) (Or.inl ⟨by rfl, ?_⟩) (by assumption) ?_
    rotate_left
    · (intro w' hSw; (try dsimp only at hSw); go_simp) <;> with_reducible rfl
    change wpAnyH Tryz.prog _ _ _ _ _ _ (Act.put _ (some 7) _) _
    (try simp only [Act.put, List.setIfInBounds_toArray, List.set_cons_zero, List.set_cons_succ])
    refine wpAnyH_take (i := 5) (v := ?_) rfl (by kernel_rfl) (by kernel_rfl) (by kernel_rfl) (fun _ _ _ h => h) (Or.inl ⟨by rfl, ?_⟩) (by assumption) ?_
    rotate_left
    · (intro w' hSw; (try dsimp only at hSw); go_simp) <;> with_reducible rfl
    change wpAnyH Tryz.prog _ _ _ _ _ _ (Act.put _ (some 2) _) _
    (try simp only [Act.put, List.setIfInBounds_toArray, List.set_cons_zero, List.set_cons_succ])
    refine wpAnyH_done (by kernel_rfl) ?_ _
    go_wp2_with fail
    go_ret
    exact ⟨rfl, hHeld.1⟩
  | true =>
    simp only [errV, if_true]
    go_wp2_with fail
    refine hK.out _ _ ?_ (fun hHeld => ?_)
    · exact KS.out _ hx2
    clear hK
    (try simp only [Act.put, List.setIfInBounds_toArray, List.set_cons_zero, List.set_cons_succ])
    refine wpAnyH_ready (rs := [3]) (by kernel_rfl) (by simp) ?_
    refine AllReadyH.cons (i := 3) rfl (fun K hK => ?_) AllReadyH.nil
    go_simp
    refine (is_nil ea _).mono ?_
    rintro e w3 ⟨rfl, hb3⟩
    have hx3 := Ex.trans (And.left hHeld) hb3
    clear hHeld
    go_wp2_with fail
    refine hK.out _ _ ?_ (fun hHeld => ?_)
    · exact KS.out _ hx3
    clear hK
    (try simp only [Act.put, List.setIfInBounds_toArray, List.set_cons_zero, List.set_cons_succ])
    refine wpAnyH_take (i := 4) (v := ?_) rfl (by kernel_rfl) (by kernel_rfl) (by kernel_rfl) (fun _ _ _ h => h) (Or.inl ⟨by rfl, ?_⟩) (by assumption) ?_
    rotate_left
    · (intro w' hSw; (try dsimp only at hSw); go_simp) <;> with_reducible rfl
    change wpAnyH Tryz.prog _ _ _ _ _ _ (Act.put _ (some 7) _) _
    (try simp only [Act.put, List.setIfInBounds_toArray, List.set_cons_zero, List.set_cons_succ])
    refine wpAnyH_take (i := 5) (v := ?_) rfl (by kernel_rfl) (by kernel_rfl) (by kernel_rfl) (fun _ _ _ h => h) (Or.inl ⟨by rfl, ?_⟩) (by assumption) ?_
    rotate_left
    · (intro w' hSw; (try dsimp only at hSw); go_simp) <;> with_reducible rfl
    change wpAnyH Tryz.prog _ _ _ _ _ _ (Act.put _ (some 2) _) _
    (try simp only [Act.put, List.setIfInBounds_toArray, List.set_cons_zero, List.set_cons_succ])
    refine wpAnyH_done (by kernel_rfl) ?_ _
    go_wp2_with fail
    go_ret
    exact ⟨rfl, hHeld.1⟩

end Go.Proofs.YtldbmlojgakieaaGreatDoor

namespace Go.Proofs.YtldbmlojgakieaaGreatDoor

open Go.RowKit Go.Deep

attribute [local go_sem ↓] Go.wp_at_zero Go.wp_at_succ

theorem QS_at {w : World} {S : Nat → Prop} {l : List PM} {a : Option Addr} (h : QS w S l a) (h0 : 0 < l.length) : ∃ b o, a = some ⟨b, o, none⟩ ∧ S b ∧ b < w.heap.size ∧ ∀ i, i < l.length → PT w S (l.getD i pm0) b (o + i * 4) := by
  rcases h with h | ⟨b, o, e, hb, ht⟩
  · omega
  · exact ⟨b, o, e, hb, World.block_lt_of_cell? _ _ (ht 0 h0).1, ht⟩

set_option maxRecDepth 100000 in
set_option maxHeartbeats 4000000 in
theorem iPureText_any (l : List PM) (a : Option Addr) (c : Nat) (w : World) (hz : qW l ≤ 1048576) (hQ : QA w 0 l a) (ht : Tab w)
    (hOK : Calls Tryz.prog 39 #[.slice a l.length c] w fun e w' => e = .returned (.bool (pureB l)) ∧ Ex w w') :
    Calls Tryz.prog 17 #[.slice a l.length c] w fun e w' => e = .returned (.string (textP l)) ∧ Ex w w' := by
  have Q : Hid (∀ w', Ex w w' → QA w' 0 l a) := fun _ h => QA_below hQ h
  have TB : Hid (∀ w', Ex w w' → Tab w') := fun _ h => ht.ex h
  have HZ : Hid (qW l ≤ 1048576) := hz
  obtain ⟨r, hr⟩ : ∃ r, pureB l = r := ⟨_, rfl⟩
  rw [hr] at hOK
  have OK : Hid _ := hOK
  have HRR : Hid (pureB l = r) := hr
  have hll : l.length ≤ 1048576 := by rw [qW_sum] at hz; omega
  clear hQ ht hz hr hOK
  cases r with
  | false =>
    have HT : Hid (textP l = ⟨#[]⟩) := by show _ = _; rw [textP, HRR.out]; rfl
    go_enter Tryz.func17, Tryz.ntmps17
    go_wp2_with fail
    refine Calls.mono OK.out ?_
    rintro e w1 ⟨rfl, hb1⟩
    go_wp2_with fail
    go_ret
    exact ⟨ret_s HT.out.symm, hb1⟩
  | true =>
    have HT : Hid (textP l = upX (fun i => fnX (l.getD i pm0)) l.length) := by show _ = _; rw [textP, HRR.out]; rfl
    have SZ : Hid (∀ j, j < l.length → (upX (fun i => fnX (l.getD i pm0)) j).size + (fnX (l.getD j pm0)).size ≤ 1000000000) := fun j hj => fns_upto HRR.out HZ.out hj
    have BOK : Hid (∀ i, i < l.length → BO 6 (l.getD i pm0).binds (l.getD i pm0).says) := BO_all HRR.out
    clear HRR
    go_enter Tryz.func17, Tryz.ntmps17
    go_wp2_with fail
    refine Calls.mono OK.out ?_
    rintro e w1 ⟨rfl, hb1⟩
    have X0 : Hid (Ex w w1) := hb1
    have TB1 : Tab w1 := TB.out _ hb1
    have HG : Hid (GB w1.heap.size) := TB1.gb
    have q1 : QS w1 (fun k => k < w1.heap.size) l a := QS_mono (Q.out _ hb1) fun k hk _ => hk
    have BN : Hid _ := Bd.new w1
    have N1 : Hid (Ex w1 (w1.alloc (.cells #[.pointer none, .slice none 0 0] 86))) := Ex.new _ _
    have HB1 : Hid (w1.heap.size ≤ (w1.alloc (.cells #[.pointer none, .slice none 0 0] 86)).heap.size) := N1.out.size
    have E1 : Hid (∀ w', Fx w1.heap.size w1.heap.size (w1.alloc (.cells #[.pointer none, .slice none 0 0] 86)) w' → Ex w1 w') := fun w' h => Below.trans N1.out h.below
    have QB : Hid (∀ w', Ex w1 w' → QS w' (fun k => k < w1.heap.size) l a) := fun w' h => QS_ks q1 fun k hk _ => h.block k hk
    have TB2 : Hid (∀ w', Ex w1 w' → Tab w') := fun w' h => TB1.ex h
    clear hb1 OK q1 TB1 TB Q
    go_wp2_with fail
    go_loopw [5, 11] (fun _ i wr => ∃ (j : Nat), j ≤ l.length ∧ i = .int .i64 j ∧ Bd w1.heap.size w1.heap.size (upX (fun i => fnX (l.getD i pm0)) j) wr ∧ Fx w1.heap.size w1.heap.size (w1.alloc (.cells #[.pointer none, .slice none 0 0] 86)) wr) (fun _ i _ => l.length - (intOf i).toNat)
    case atStart => exact ⟨0, by omega, rfl, BN.out, Fx.refl _ _ _⟩
    case round =>
      obtain ⟨j, hj, rfl, hbd, hfx⟩ := hrel
      have E : Hid (Fx w1.heap.size w1.heap.size (w1.alloc (.cells #[.pointer none, .slice none 0 0] 86)) wr) := hfx
      have BDJ : Hid _ := hbd
      have hlr : w1.heap.size < wr.heap.size := hbd.lt
      clear hfx hbd
      by_cases hlt : j < l.length
      · obtain ⟨b, o, rfl, hbb, hbs, hk⟩ := QS_at (QB.out wr (E1.out _ E.out)) (by omega)
        obtain ⟨b0, ⟨a1, k1, b1, hnc, x1⟩, ⟨a2, k2, b2, x2⟩, ⟨a3, k3, b3, x3⟩⟩ := hk j hlt
        obtain ⟨q1, q2, q3⟩ := pW_parts hlt
        have hq := HZ.out
        have hsz := SZ.out j hlt
        have bo := BOK.out j hlt
        have F1 : Hid (Fx w1.heap.size w1.heap.size wr (wr.alloc (.cells #[.string (l.getD j pm0).name, .slice a1 (l.getD j pm0).params.length k1, .slice a2 (blen (l.getD j pm0).binds) k2, .slice a3 (tlen (l.getD j pm0).says) k3] 61))) := Fx.of_ex (Nat.le_of_lt hlr) (Ex.new _ _)
        have RN : Hid (∀ w', Fx w1.heap.size w1.heap.size (wr.alloc (.cells #[.string (l.getD j pm0).name, .slice a1 (l.getD j pm0).params.length k1, .slice a2 (blen (l.getD j pm0).binds) k2, .slice a3 (tlen (l.getD j pm0).says) k3] 61)) w' → Calls Tryz.prog 41 #[.slice a1 (l.getD j pm0).params.length k1] w' fun e w'' => e = .returned (.string (namesX (l.getD j pm0).params)) ∧ Ex w' w'') := fun w' hx => namesText_any _ a1 k1 w' (by omega) (XS_0 (XS_ks x1 (F1.out.trans hx).ks))
        have BDV : Hid (Bd w1.heap.size w1.heap.size (upX (fun i => fnX (l.getD i pm0)) j) (wr.alloc (.cells #[.string (l.getD j pm0).name, .slice a1 (l.getD j pm0).params.length k1, .slice a2 (blen (l.getD j pm0).binds) k2, .slice a3 (tlen (l.getD j pm0).says) k3] 61))) := Bd.ex BDJ.out (Ex.new _ _)
        have LN : Hid (∀ t' w', Fx w1.heap.size w1.heap.size (wr.alloc (.cells #[.string (l.getD j pm0).name, .slice a1 (l.getD j pm0).params.length k1, .slice a2 (blen (l.getD j pm0).binds) k2, .slice a3 (tlen (l.getD j pm0).says) k3] 61)) w' → Bd w1.heap.size w1.heap.size t' w' → t'.size + (bodyX 6 ⟨#[32]⟩ (l.getD j pm0).binds (l.getD j pm0).says).size ≤ 1000000000 → Calls Tryz.prog 42 #[.pointer (some ⟨w1.heap.size, 0, none⟩), .agg #[.slice a2 (blen (l.getD j pm0).binds) k2, .slice a3 (tlen (l.getD j pm0).says) k3], .string ⟨#[32]⟩] w' (WrP w1.heap.size w1.heap.size t' (bodyX 6 ⟨#[32]⟩ (l.getD j pm0).binds (l.getD j pm0).says) w')) := fun t' w' hx hb hs =>
          writeBody_any _ _ HG.out 6 ⟨#[32]⟩ t' _ a2 k2 _ a3 k3 w' (by show 1 + 6 ≤ 10; omega) bo (by omega) hb hs (BS_ks x2 (F1.out.trans hx).ks) (MS_ks x3 (F1.out.trans hx).ks) (TB2.out _ (E1.out _ (E.out.trans (F1.out.trans hx))))
        have VB : Hid (∀ w', Fx w1.heap.size w1.heap.size (wr.alloc (.cells #[.string (l.getD j pm0).name, .slice a1 (l.getD j pm0).params.length k1, .slice a2 (blen (l.getD j pm0).binds) k2, .slice a3 (tlen (l.getD j pm0).says) k3] 61)) w' → w'.heap[wr.heap.size]? = some (.cells #[.string (l.getD j pm0).name, .slice a1 (l.getD j pm0).params.length k1, .slice a2 (blen (l.getD j pm0).binds) k2, .slice a3 (tlen (l.getD j pm0).says) k3] 61 (0, 0))) := fun w' h => box_fx h hlr (by decide)
        have HB2 : Hid (w1.heap.size ≤ (wr.alloc (.cells #[.string (l.getD j pm0).name, .slice a1 (l.getD j pm0).params.length k1, .slice a2 (blen (l.getD j pm0).binds) k2, .slice a3 (tlen (l.getD j pm0).says) k3] 61)).heap.size) := by show _ ≤ _; rw [World.size_alloc]; omega
        have HU : Hid (upX (fun i => fnX (l.getD i pm0)) (j + 1) = upX (fun i => fnX (l.getD i pm0)) j ++ fnX (l.getD j pm0)) := rfl
        rw [fnX] at HU hsz
        clear hk x1 x2 x3 q1 q2 q3 hq bo hnc
        generalize bodyX 6 ⟨#[32]⟩ (l.getD j pm0).binds (l.getD j pm0).says = bx at LN HU hsz
        generalize namesX (l.getD j pm0).params = nx at RN HU hsz
        generalize (l.getD j pm0).name = nm at b0 HU hsz F1 RN BDV LN VB HB2
        generalize (l.getD j pm0).params.length = l1 at b1 F1 RN BDV LN VB HB2
        generalize blen (l.getD j pm0).binds = l2 at b2 F1 RN BDV LN VB HB2
        generalize tlen (l.getD j pm0).says = l3 at b3 F1 RN BDV LN VB HB2
        have HV : Hid (upX (fun i => fnX (l.getD i pm0)) j ++ (nm ++ nx ++ ⟨#[10]⟩) ++ bx = upX (fun i => fnX (l.getD i pm0)) (j + 1)) := by show _ = _; rw [HU.out]; simp only [cat3]
        generalize upX (fun i => fnX (l.getD i pm0)) j = t at HU hsz BDJ BDV HV
        simp only [ByteArray.size_append] at hsz
        have e1 : (⟨#[10]⟩ : ByteArray).size = 1 := rfl
        have HW : Hid (∀ w', Bd w1.heap.size w1.heap.size t w' → Calls Tryz.prog 40 #[.pointer (some ⟨w1.heap.size, 0, none⟩), .string (nm ++ nx ++ ⟨#[10]⟩)] w' fun e w'' => e = .returned (.tuple #[.int .i64 (nm ++ nx ++ ⟨#[10]⟩).size, .nilIface]) ∧ Bd w1.heap.size w1.heap.size (t ++ (nm ++ nx ++ ⟨#[10]⟩)) w'' ∧ Fx w1.heap.size w1.heap.size w' w'') := fun w' h => write_any _ _ t _ w' h (by simp only [ByteArray.size_append]; omega)
        have Z2 : Hid ((t ++ (nm ++ nx ++ ⟨#[10]⟩)).size + bx.size ≤ 1000000000) := by show _ ≤ _; simp only [ByteArray.size_append]; omega
        have n1 : ¬ 9223372036854775807 < nm.size + nx.size := by omega
        have n2 : ¬ 9223372036854775807 < nm.size + nx.size + 1 := by omega
        obtain ⟨B, hB⟩ : ∃ B, B = w1.heap.size := ⟨_, rfl⟩
        have KX : Hid (∀ w', Fx w1.heap.size w1.heap.size (wr.alloc (.cells #[.string nm, .slice a1 l1 k1, .slice a2 l2 k2, .slice a3 l3 k3] 61)) w' → Fx w1.heap.size w1.heap.size (wr.alloc (.cells #[.string nm, .slice a1 l1 k1, .slice a2 l2 k2, .slice a3 l3 k3] 61)) w' ∧ w'.cell? ⟨wr.heap.size, 0, none⟩ = some (.string nm) ∧ w'.cell? ⟨wr.heap.size, 1, none⟩ = some (.slice a1 l1 k1) ∧ w'.cell? ⟨wr.heap.size, 2, none⟩ = some (.slice a2 l2 k2) ∧ w'.cell? ⟨wr.heap.size, 3, none⟩ = some (.slice a3 l3 k3)) := fun w' h => ⟨h, blk_cell (VB.out _ h) 0, blk_cell (VB.out _ h) 1, blk_cell (VB.out _ h) 2, blk_cell (VB.out _ h) 3⟩
        clear hsz HU e1 VB hB
        go_wp2_with fail
        go_region_held3 (fun w' => Fx w1.heap.size w1.heap.size (wr.alloc (.cells #[.string nm, .slice a1 l1 k1, .slice a2 l2 k2, .slice a3 l3 k3] 61)) w' ∧ w'.cell? ⟨wr.heap.size, 0, none⟩ = some (.string nm) ∧ w'.cell? ⟨wr.heap.size, 1, none⟩ = some (.slice a1 l1 k1) ∧ w'.cell? ⟨wr.heap.size, 2, none⟩ = some (.slice a2 l2 k2) ∧ w'.cell? ⟨wr.heap.size, 3, none⟩ = some (.slice a3 l3 k3)) ((refine KX.out _ ?_; first | exact (Fx.refl _ _ _).drew | exact Fx.ex (And.left ‹Fx _ _ _ _ ∧ _›) HB2.out ‹Ex _ _› | exact Fx.trans (And.left ‹Fx _ _ _ _ ∧ _›) ‹Fx _ _ _ _›)) (first | (go_at_call 41; refine (RN.out _ (And.left ‹Fx _ _ _ _ ∧ _›)).mono ?_; rintro e w2 ⟨rfl, hb1⟩; have hbd := Bd.ex BDV.out.drew hb1) | (go_at_call 40; refine (HW.out _ hbd).mono ?_; rintro e w3 ⟨rfl, hbd2, hfx2⟩))
        have BD2 : Hid _ := hbd2
        have FX2 : Hid (Fx w1.heap.size w1.heap.size (wr.alloc (.cells #[.string nm, .slice a1 l1 k1, .slice a2 l2 k2, .slice a3 l3 k3] 61)) w3) := And.left ‹Fx _ _ _ _ ∧ _›
        clear hbd hbd2 hfx2
        go_wp2_with fail
        refine Calls.mono (LN.out _ _ FX2.out BD2.out Z2.out) ?_
        rintro e w4 ⟨rfl, hbd4, hfx4⟩
        have BD4 : Hid (Bd w1.heap.size w1.heap.size (upX (fun i => fnX (l.getD i pm0)) (j + 1)) w4) := by show Bd _ _ _ _; rw [← HV.out]; exact hbd4
        have E4 : Hid _ := E.out.trans (F1.out.trans (FX2.out.trans hfx4))
        clear hbd4 hfx4
        go_wp2_with fail
        go_roundw
        case rel => exact ⟨j + 1, by omega, by go_num, BD4.out, E4.out⟩
        case measure => simp [intOf]; omega
      · have hje : j = l.length := by omega
        have W : Hid (Calls Tryz.prog 43 #[.pointer (some ⟨w1.heap.size, 0, none⟩)] wr fun e w' => e = .returned (.string (textP l)) ∧ Below w1.heap.size wr w') := by
          have := string_any BDJ.out
          rw [hje, ← HT.out] at this
          exact this
        clear hje
        go_wp2_with fail
        refine Calls.mono W.out ?_
        rintro e w2 ⟨rfl, hb⟩
        go_wp2_with fail
        go_ret
        exact ⟨rfl, X0.out.trans (Below.trans (E1.out _ E.out) hb)⟩

end Go.Proofs.YtldbmlojgakieaaGreatDoor

namespace Go.Proofs.YtldbmlojgakieaaGreatDoor

open Go.RowKit Go.Deep

attribute [local go_sem ↓] Go.wp_at_zero Go.wp_at_succ

set_option maxRecDepth 100000 in
set_option maxHeartbeats 2000000 in
theorem eqTexts_same (f : List ByteArray) (a a' : Option Addr) (c c' : Nat) (w : World) (hl : f.length ≤ 1000000000) (hT : XA w 0 f a) (hT' : XA w 0 f a') :
    Calls Tryz.prog 61 #[.slice a f.length c, .slice a' f.length c'] w fun e w' => e = .returned (.bool true) ∧ Ex w w' := by
  have T : Hid (∀ w', Ex w w' → XA w' 0 f a) := fun _ h => XA_below hT h
  have T' : Hid (∀ w', Ex w w' → XA w' 0 f a') := fun _ h => XA_below hT' h
  clear hT hT'
  go_enter Tryz.func61, Tryz.ntmps61
  go_wp2_with fail
  go_loopw [5] (fun i wr => ∃ k : Nat, k ≤ f.length ∧ i = .int .i64 k ∧ Ex w wr) (fun i _ => f.length - (intOf i).toNat)
  case atStart => exact ⟨0, Nat.zero_le _, rfl, Ex.refl _⟩
  case round =>
    obtain ⟨j, hk, rfl, hx⟩ := hrel
    have X : Hid (Ex w wr) := hx
    clear hx
    by_cases hlt : j < f.length
    · obtain ⟨b, o, rfl, _, _, hkk⟩ := XA_at (T.out wr X.out) (by omega)
      obtain ⟨b', o', rfl, _, _, hkk'⟩ := XA_at (T'.out wr X.out) (by omega)
      have e0 := hkk j hlt
      have g0 := hkk' j hlt
      obtain ⟨t, ht⟩ : ∃ t, f.getD j ⟨#[]⟩ = t := ⟨_, rfl⟩
      rw [ht] at e0 g0
      clear hkk hkk' ht
      have KS : Hid (∀ w', Ex wr w' → (Ex wr w' ∧ w'.cell? ⟨b, o + j, none⟩ = some (.string t) ∧ w'.cell? ⟨b', o' + j, none⟩ = some (.string t))) := fun w' h => ⟨h, h.at e0, h.at g0⟩
      have i0 : (0 : Int) ≤ (j : Int) := by omega
      have i1 : (j : Int) < (f.length : Int) := by omega
      go_wp2_with fail
      clear e0 g0
      refine wp_region_held_drew (S := fun w' => Ex wr w' ∧ w'.cell? ⟨b, o + j, none⟩ = some (.string t) ∧ w'.cell? ⟨b', o' + j, none⟩ = some (.string t)) (by kernel_rfl) (KS.out _ (Ex.refl _).drew) (fun hHeld => ?_)
      refine wpAnyH_take (i := 0) (v := ?_) rfl (by kernel_rfl) (by kernel_rfl) (by kernel_rfl) (fun _ _ _ h => h) (Or.inl ⟨by rfl, ?_⟩) (by assumption) ?_
      rotate_left
      · (intro w' hSw; (try dsimp only at hSw); go_simp) <;> with_reducible rfl
      change wpAnyH Tryz.prog _ _ _ _ _ _ (Act.put _ (some 17) _) _
      (try simp only [Act.put, List.setIfInBounds_toArray, List.set_cons_zero, List.set_cons_succ])
      refine wpAnyH_take (i := 1) (v := ?_) rfl (by kernel_rfl) (by kernel_rfl) (by kernel_rfl) (fun _ _ _ h => h) (Or.inl ⟨by rfl, ?_⟩) (by assumption) ?_
      rotate_left
      · (intro w' hSw; (try dsimp only at hSw); go_simp) <;> with_reducible rfl
      change wpAnyH Tryz.prog _ _ _ _ _ _ (Act.put _ (some 18) _) _
      (try simp only [Act.put, List.setIfInBounds_toArray, List.set_cons_zero, List.set_cons_succ])
      refine wpAnyH_take (i := 2) (v := ?_) rfl (by kernel_rfl) (by kernel_rfl) (by kernel_rfl) (fun _ _ _ h => h) (Or.inl ⟨by rfl, ?_⟩) (by assumption) ?_
      rotate_left
      · (intro w' hSw; (try dsimp only at hSw); go_simp) <;> with_reducible rfl
      change wpAnyH Tryz.prog _ _ _ _ _ _ (Act.put _ (some 19) _) _
      (try simp only [Act.put, List.setIfInBounds_toArray, List.set_cons_zero, List.set_cons_succ])
      refine wpAnyH_take (i := 3) (v := ?_) rfl (by kernel_rfl) (by kernel_rfl) (by kernel_rfl) (fun _ _ _ h => h) (Or.inl ⟨by rfl, ?_⟩) (by assumption) ?_
      rotate_left
      · (intro w' hSw; (try dsimp only at hSw); go_simp) <;> with_reducible rfl
      change wpAnyH Tryz.prog _ _ _ _ _ _ (Act.put _ (some 20) _) _
      (try simp only [Act.put, List.setIfInBounds_toArray, List.set_cons_zero, List.set_cons_succ])
      refine wpAnyH_take (i := 4) (v := ?_) rfl (by kernel_rfl) (by kernel_rfl) (by kernel_rfl) (fun _ _ _ h => h) (Or.inl ⟨by rfl, ?_⟩) (by assumption) ?_
      rotate_left
      · (intro w' hSw; (try dsimp only at hSw); go_simp) <;> with_reducible rfl
      change wpAnyH Tryz.prog _ _ _ _ _ _ (Act.put _ (some 21) _) _
      (try simp only [Act.put, List.setIfInBounds_toArray, List.set_cons_zero, List.set_cons_succ])
      refine wpAnyH_take (i := 5) (v := ?_) rfl (by kernel_rfl) (by kernel_rfl) (by kernel_rfl) (fun _ _ _ h => h) (Or.inl ⟨by rfl, ?_⟩) (by assumption) ?_
      rotate_left
      · (intro w' hSw; (try dsimp only at hSw); go_simp) <;> with_reducible rfl
      change wpAnyH Tryz.prog _ _ _ _ _ _ (Act.put _ (some 22) _) _
      (try simp only [Act.put, List.setIfInBounds_toArray, List.set_cons_zero, List.set_cons_succ])
      refine wpAnyH_take (i := 6) (v := ?_) rfl (by kernel_rfl) (by kernel_rfl) (by kernel_rfl) (fun _ _ _ h => h) (Or.inl ⟨by rfl, ?_⟩) (by assumption) ?_
      rotate_left
      · (intro w' hSw; (try dsimp only at hSw); go_simp) <;> with_reducible rfl
      change wpAnyH Tryz.prog _ _ _ _ _ _ (Act.put _ (some 23) _) _
      (try simp only [Act.put, List.setIfInBounds_toArray, List.set_cons_zero, List.set_cons_succ])
      refine wpAnyH_take (i := 7) (v := ?_) rfl (by kernel_rfl) (by kernel_rfl) (by kernel_rfl) (fun _ _ _ h => h) (Or.inl ⟨by rfl, ?_⟩) (by assumption) ?_
      rotate_left
      · (intro w' hSw; (try dsimp only at hSw); go_simp) <;> with_reducible rfl
      change wpAnyH Tryz.prog _ _ _ _ _ _ (Act.put _ (some 24) _) _
      (try simp only [Act.put, List.setIfInBounds_toArray, List.set_cons_zero, List.set_cons_succ])
      refine wpAnyH_take (i := 8) (v := ?_) rfl (by kernel_rfl) (by kernel_rfl) (by kernel_rfl) (fun _ _ _ h => h) (Or.inl ⟨by rfl, ?_⟩) (by assumption) ?_
      rotate_left
      · (intro w' hSw; (try dsimp only at hSw); go_simp) <;> with_reducible rfl
      change wpAnyH Tryz.prog _ _ _ _ _ _ (Act.put _ (some 25) _) _
      (try simp only [Act.put, List.setIfInBounds_toArray, List.set_cons_zero, List.set_cons_succ])
      refine wpAnyH_done (by kernel_rfl) ?_ _
      go_wp2_with fail
      go_roundw
      case rel => exact ⟨j + 1, by omega, by go_num, X.out.trans hHeld.1⟩
      case measure => simp [intOf]; omega
    · go_wp2_with fail
      go_ret
      exact ⟨rfl, X.out⟩

set_option maxRecDepth 100000 in
set_option maxHeartbeats 4000000 in
theorem eqTermS_by (f : TM) (a a' : Option Addr) (c c' : Nat) (w : World) (hl : tlen f ≤ 1000000000) (hT : MA w 0 f a) (hT' : MA w 0 f a')
    (hK : ∀ j, j < tlen f → ∀ (p1 : Option Addr) (q1 : Nat) (a1 : Option Addr) (c1 : Nat) (p2 : Option Addr) (q2 : Nat) (a2 : Option Addr) (c2 : Nat) (w' : World), Ex w w' → PA w' 0 (tpath f j) p1 → MA w' 0 (tkid f j) a1 → PA w' 0 (tpath f j) p2 → MA w' 0 (tkid f j) a2 → Calls Tryz.prog 106 #[.agg #[.int .i64 (tkind f j), .int .i64 (tnum f j), .string (tname f j), .slice p1 (tpath f j).length q1, .slice a1 (tlen (tkid f j)) c1], .agg #[.int .i64 (tkind f j), .int .i64 (tnum f j), .string (tname f j), .slice p2 (tpath f j).length q2, .slice a2 (tlen (tkid f j)) c2]] w' fun e w'' => e = .returned (.bool true) ∧ Ex w' w'') :
    Calls Tryz.prog 82 #[.slice a (tlen f) c, .slice a' (tlen f) c'] w fun e w' => e = .returned (.bool true) ∧ Ex w w' := by
  have T : Hid (∀ w', Ex w w' → MA w' 0 f a) := fun _ h => MA_below hT h
  have T' : Hid (∀ w', Ex w w' → MA w' 0 f a') := fun _ h => MA_below hT' h
  have I : Hid _ := hK
  clear hT hT' hK
  go_enter Tryz.func82, Tryz.ntmps82
  go_wp2_with fail
  go_loopw [5] (fun i wr => ∃ k : Nat, k ≤ tlen f ∧ i = .int .i64 k ∧ Ex w wr) (fun i _ => tlen f - (intOf i).toNat)
  case atStart => exact ⟨0, Nat.zero_le _, rfl, Ex.refl _⟩
  case round =>
    obtain ⟨j, hk, rfl, hx⟩ := hrel
    have X : Hid (Ex w wr) := hx
    clear hx
    by_cases hlt : j < tlen f
    · obtain ⟨b, o, rfl, _, hbs, hkk⟩ := MA_at (T.out wr X.out) (by omega)
      obtain ⟨e0, e1, e2, ⟨p1, q1, e3, y1⟩, a1, c1, e4, y2⟩ := hkk j hlt
      obtain ⟨b', o', rfl, _, hbs', hkk'⟩ := MA_at (T'.out wr X.out) (by omega)
      obtain ⟨g0, g1, g2, ⟨p2, q2, g3, z1⟩, a2, c2, g4, z2⟩ := hkk' j hlt
      have HI : Hid (∀ w', Ex wr w' → _) := fun w' (h : Ex wr w') => I.out j hlt p1 q1 a1 c1 p2 q2 a2 c2 w' (X.out.trans h) (PA_below (PS_pa.1 y1.1) h) (MA_below y2 h) (PA_below (PS_pa.1 z1.1) h) (MA_below z2 h)
      clear hkk hkk' y1 y2 z1 z2
      have KS : Hid (∀ w', Ex wr w' → (Ex wr w' ∧ w'.cell? ⟨b, o + j * 5, none⟩ = some (.int .i64 (tkind f j)) ∧ w'.cell? ⟨b, o + j * 5 + 1, none⟩ = some (.int .i64 (tnum f j)) ∧ w'.cell? ⟨b, o + j * 5 + 2, none⟩ = some (.string (tname f j)) ∧ w'.cell? ⟨b, o + j * 5 + 3, none⟩ = some (.slice p1 (tpath f j).length q1) ∧ w'.cell? ⟨b, o + j * 5 + 4, none⟩ = some (.slice a1 (tlen (tkid f j)) c1) ∧ w'.cell? ⟨b', o' + j * 5, none⟩ = some (.int .i64 (tkind f j)) ∧ w'.cell? ⟨b', o' + j * 5 + 1, none⟩ = some (.int .i64 (tnum f j)) ∧ w'.cell? ⟨b', o' + j * 5 + 2, none⟩ = some (.string (tname f j)) ∧ w'.cell? ⟨b', o' + j * 5 + 3, none⟩ = some (.slice p2 (tpath f j).length q2) ∧ w'.cell? ⟨b', o' + j * 5 + 4, none⟩ = some (.slice a2 (tlen (tkid f j)) c2))) := fun w' h => ⟨h, h.at e0, h.at e1, h.at e2, h.at e3, h.at e4, h.at g0, h.at g1, h.at g2, h.at g3, h.at g4⟩
      have i0 : (0 : Int) ≤ (j : Int) := by omega
      have i1 : (j : Int) < (tlen f : Int) := by omega
      go_wp2_with fail
      clear e0 g0 e1 g1 e2 g2 e3 g3 e4 g4
      refine wp_region_held_drew (S := fun w' => Ex wr w' ∧ w'.cell? ⟨b, o + j * 5, none⟩ = some (.int .i64 (tkind f j)) ∧ w'.cell? ⟨b, o + j * 5 + 1, none⟩ = some (.int .i64 (tnum f j)) ∧ w'.cell? ⟨b, o + j * 5 + 2, none⟩ = some (.string (tname f j)) ∧ w'.cell? ⟨b, o + j * 5 + 3, none⟩ = some (.slice p1 (tpath f j).length q1) ∧ w'.cell? ⟨b, o + j * 5 + 4, none⟩ = some (.slice a1 (tlen (tkid f j)) c1) ∧ w'.cell? ⟨b', o' + j * 5, none⟩ = some (.int .i64 (tkind f j)) ∧ w'.cell? ⟨b', o' + j * 5 + 1, none⟩ = some (.int .i64 (tnum f j)) ∧ w'.cell? ⟨b', o' + j * 5 + 2, none⟩ = some (.string (tname f j)) ∧ w'.cell? ⟨b', o' + j * 5 + 3, none⟩ = some (.slice p2 (tpath f j).length q2) ∧ w'.cell? ⟨b', o' + j * 5 + 4, none⟩ = some (.slice a2 (tlen (tkid f j)) c2)) (by kernel_rfl) (KS.out _ (Ex.refl _).drew) (fun hHeld => ?_)
      refine wpAnyH_take (i := 0) (v := ?_) rfl (by kernel_rfl) (by kernel_rfl) (by kernel_rfl) (fun _ _ _ h => h) (Or.inl ⟨by rfl, ?_⟩) (by assumption) ?_
      rotate_left
      · (intro w' hSw; (try dsimp only at hSw); go_simp) <;> with_reducible rfl
      change wpAnyH Tryz.prog _ _ _ _ _ _ (Act.put _ (some 17) _) _
      (try simp only [Act.put, List.setIfInBounds_toArray, List.set_cons_zero, List.set_cons_succ])
      refine wpAnyH_take (i := 1) (v := ?_) rfl (by kernel_rfl) (by kernel_rfl) (by kernel_rfl) (fun _ _ _ h => h) (Or.inl ⟨by rfl, ?_⟩) (by assumption) ?_
      rotate_left
      · (intro w' hSw; (try dsimp only at hSw); go_simp) <;> with_reducible rfl
      change wpAnyH Tryz.prog _ _ _ _ _ _ (Act.put _ (some 18) _) _
      (try simp only [Act.put, List.setIfInBounds_toArray, List.set_cons_zero, List.set_cons_succ])
      refine wpAnyH_take (i := 2) (v := ?_) rfl (by kernel_rfl) (by kernel_rfl) (by kernel_rfl) (fun _ _ _ h => h) (Or.inl ⟨by rfl, ?_⟩) (by assumption) ?_
      rotate_left
      · (intro w' hSw; (try dsimp only at hSw); go_simp) <;> with_reducible rfl
      change wpAnyH Tryz.prog _ _ _ _ _ _ (Act.put _ (some 19) _) _
      (try simp only [Act.put, List.setIfInBounds_toArray, List.set_cons_zero, List.set_cons_succ])
      refine wpAnyH_take (i := 3) (v := ?_) rfl (by kernel_rfl) (by kernel_rfl) (by kernel_rfl) (fun _ _ _ h => h) (Or.inl ⟨by rfl, ?_⟩) (by assumption) ?_
      rotate_left
      · (intro w' hSw; (try dsimp only at hSw); go_simp) <;> with_reducible rfl
      change wpAnyH Tryz.prog _ _ _ _ _ _ (Act.put _ (some 20) _) _
      (try simp only [Act.put, List.setIfInBounds_toArray, List.set_cons_zero, List.set_cons_succ])
      refine wpAnyH_take (i := 4) (v := ?_) rfl (by kernel_rfl) (by kernel_rfl) (by kernel_rfl) (fun _ _ _ h => h) (Or.inl ⟨by rfl, ?_⟩) (by assumption) ?_
      rotate_left
      · (intro w' hSw; (try dsimp only at hSw); go_simp) <;> with_reducible rfl
      change wpAnyH Tryz.prog _ _ _ _ _ _ (Act.put _ (some 21) _) _
      (try simp only [Act.put, List.setIfInBounds_toArray, List.set_cons_zero, List.set_cons_succ])
      refine wpAnyH_take (i := 5) (v := ?_) rfl (by kernel_rfl) (by kernel_rfl) (by kernel_rfl) (fun _ _ _ h => h) (Or.inl ⟨by rfl, ?_⟩) (by assumption) ?_
      rotate_left
      · (intro w' hSw; (try dsimp only at hSw); go_simp) <;> with_reducible rfl
      change wpAnyH Tryz.prog _ _ _ _ _ _ (Act.put _ (some 22) _) _
      (try simp only [Act.put, List.setIfInBounds_toArray, List.set_cons_zero, List.set_cons_succ])
      refine wpAnyH_take (i := 6) (v := ?_) rfl (by kernel_rfl) (by kernel_rfl) (by kernel_rfl) (fun _ _ _ h => h) (Or.inl ⟨by rfl, ?_⟩) (by assumption) ?_
      rotate_left
      · (intro w' hSw; (try dsimp only at hSw); go_simp) <;> with_reducible rfl
      change wpAnyH Tryz.prog _ _ _ _ _ _ (Act.put _ (some 23) _) _
      (try simp only [Act.put, List.setIfInBounds_toArray, List.set_cons_zero, List.set_cons_succ])
      refine wpAnyH_take (i := 7) (v := ?_) rfl (by kernel_rfl) (by kernel_rfl) (by kernel_rfl) (fun _ _ _ h => h) (Or.inl ⟨by rfl, ?_⟩) (by assumption) ?_
      rotate_left
      · (intro w' hSw; (try dsimp only at hSw); go_simp) <;> with_reducible rfl
      change wpAnyH Tryz.prog _ _ _ _ _ _ (Act.put _ (some 24) _) _
      (try simp only [Act.put, List.setIfInBounds_toArray, List.set_cons_zero, List.set_cons_succ])
      refine wpAnyH_ready (rs := [8]) (by kernel_rfl) (by simp) ?_
      refine AllReadyH.cons (i := 8) rfl (fun K hK => ?_) AllReadyH.nil
      go_simp
      refine (HI.out _ hHeld.1).mono ?_
      rintro e w1 ⟨rfl, hb1⟩
      have hx1 := Ex.trans (And.left hHeld) hb1
      clear hHeld
      go_wp2_with fail
      refine hK.out _ _ ?_ (fun hHeld => ?_)
      · exact KS.out _ hx1
      clear hK
      (try simp only [Act.put, List.setIfInBounds_toArray, List.set_cons_zero, List.set_cons_succ])
      refine wpAnyH_take (i := 9) (v := ?_) rfl (by kernel_rfl) (by kernel_rfl) (by kernel_rfl) (fun _ _ _ h => h) (Or.inl ⟨by rfl, ?_⟩) (by assumption) ?_
      rotate_left
      · (intro w' hSw; (try dsimp only at hSw); go_simp) <;> with_reducible rfl
      change wpAnyH Tryz.prog _ _ _ _ _ _ (Act.put _ (some 26) _) _
      (try simp only [Act.put, List.setIfInBounds_toArray, List.set_cons_zero, List.set_cons_succ])
      refine wpAnyH_done (by kernel_rfl) ?_ _
      go_wp2_with fail
      go_roundw
      case rel => exact ⟨j + 1, by omega, by go_num, X.out.trans hHeld.1⟩
      case measure => simp [intOf]; omega
    · go_wp2_with fail
      go_ret
      exact ⟨rfl, X.out⟩

set_option maxRecDepth 100000 in
set_option maxHeartbeats 2000000 in
theorem eqTerm_by (k n : Int) (s : ByteArray) (p : List Int) (p1 : Option Addr) (q1 : Nat) (p2 : Option Addr) (q2 : Nat) (f : TM) (a1 : Option Addr) (c1 : Nat) (a2 : Option Addr) (c2 : Nat) (w : World) (hp : p.length ≤ 1000000000) (hP1 : PA w 0 p p1) (hP2 : PA w 0 p p2) (hK : ∀ w', Ex w w' → Calls Tryz.prog 82 #[.slice a1 (tlen f) c1, .slice a2 (tlen f) c2] w' fun e w'' => e = .returned (.bool true) ∧ Ex w' w'') :
    Calls Tryz.prog 106 #[.agg #[.int .i64 k, .int .i64 n, .string s, .slice p1 p.length q1, .slice a1 (tlen f) c1], .agg #[.int .i64 k, .int .i64 n, .string s, .slice p2 p.length q2, .slice a2 (tlen f) c2]] w fun e w' => e = .returned (.bool true) ∧ Ex w w' := by
  have H_hP1 : Hid _ := hP1
  clear hP1
  have H_hP2 : Hid _ := hP2
  clear hP2
  have H_hK : Hid _ := hK
  clear hK
  have N : Hid (Ex w ((w.alloc (.cells #[.int .i64 k, .int .i64 n, .string s, .slice p1 p.length q1, .slice a1 (tlen f) c1] 121)).alloc (.cells #[.int .i64 k, .int .i64 n, .string s, .slice p2 p.length q2, .slice a2 (tlen f) c2] 121))) := (Ex.new _ _).alloc _
  have C : Hid (∀ w', Ex ((w.alloc (.cells #[.int .i64 k, .int .i64 n, .string s, .slice p1 p.length q1, .slice a1 (tlen f) c1] 121)).alloc (.cells #[.int .i64 k, .int .i64 n, .string s, .slice p2 p.length q2, .slice a2 (tlen f) c2] 121)) w' → w'.cell? ⟨w.heap.size, 0, none⟩ = some (.int .i64 k) ∧ w'.cell? ⟨w.heap.size, 1, none⟩ = some (.int .i64 n) ∧ w'.cell? ⟨w.heap.size, 2, none⟩ = some (.string s) ∧ w'.cell? ⟨w.heap.size, 3, none⟩ = some (.slice p1 p.length q1) ∧ w'.cell? ⟨w.heap.size, 4, none⟩ = some (.slice a1 (tlen f) c1) ∧ w'.cell? ⟨w.heap.size + 1, 0, none⟩ = some (.int .i64 k) ∧ w'.cell? ⟨w.heap.size + 1, 1, none⟩ = some (.int .i64 n) ∧ w'.cell? ⟨w.heap.size + 1, 2, none⟩ = some (.string s) ∧ w'.cell? ⟨w.heap.size + 1, 3, none⟩ = some (.slice p2 p.length q2) ∧ w'.cell? ⟨w.heap.size + 1, 4, none⟩ = some (.slice a2 (tlen f) c2)) := fun w' h => ⟨h.at (by simp), h.at (by simp), h.at (by simp), h.at (by simp), h.at (by simp), h.at (by simp), h.at (by simp), h.at (by simp), h.at (by simp), h.at (by simp)⟩
  go_enter Tryz.func106, Tryz.ntmps106
  go_wp2_with fail
  refine (eqIntS_same p p1 p2 q1 q2 _ hp (PA_below H_hP1.out N.out) (PA_below H_hP2.out N.out)).mono ?_
  rintro e w1 ⟨rfl, hb1⟩
  have X1 : Hid (Ex ((w.alloc (.cells #[.int .i64 k, .int .i64 n, .string s, .slice p1 p.length q1, .slice a1 (tlen f) c1] 121)).alloc (.cells #[.int .i64 k, .int .i64 n, .string s, .slice p2 p.length q2, .slice a2 (tlen f) c2] 121)) w1) := hb1
  clear hb1
  obtain ⟨cA0, cA1, cA2, cA3, cA4, cB0, cB1, cB2, cB3, cB4⟩ := C.out w1 X1.out
  go_wp2_with fail
  refine (H_hK.out _ (N.out.trans X1.out)).mono ?_
  rintro e w2 ⟨rfl, hb2⟩
  have X2 : Hid (Ex ((w.alloc (.cells #[.int .i64 k, .int .i64 n, .string s, .slice p1 p.length q1, .slice a1 (tlen f) c1] 121)).alloc (.cells #[.int .i64 k, .int .i64 n, .string s, .slice p2 p.length q2, .slice a2 (tlen f) c2] 121)) w2) := X1.out.trans hb2
  clear hb2 cA0 cA1 cA2 cA3 cA4 cB0 cB1 cB2 cB3 cB4
  obtain ⟨cA0, cA1, cA2, cA3, cA4, cB0, cB1, cB2, cB3, cB4⟩ := C.out w2 X2.out
  go_wp2_with fail
  go_ret
  exact ⟨rfl, N.out.trans X2.out⟩

theorem eqTermS_all : ∀ (d : Nat) (f : TM) (a a' : Option Addr) (c c' : Nat) (w : World), tdep f < d → tlen f ≤ 1000000000 → TSm f → MA w 0 f a → MA w 0 f a' →
    Calls Tryz.prog 82 #[.slice a (tlen f) c, .slice a' (tlen f) c'] w fun e w' => e = .returned (.bool true) ∧ Ex w w' := by
  intro d
  induction d with
  | zero => intro f a a' c c' w hd; omega
  | succ d ih =>
    intro f a a' c c' w hd hl hm hT hT'
    refine eqTermS_by f a a' c c' w hl hT hT' fun j hj p1 q1 a1 c1 p2 q2 a2 c2 w' hx y1 y2 z1 z2 => ?_
    obtain ⟨g1, g2, g3⟩ := TSm_kid hm j hj
    have hdj := tdep_kid f j hj
    exact eqTerm_by _ _ _ _ p1 q1 p2 q2 _ a1 c1 a2 c2 w' g1 y1 z1 (fun w2 hx2 => ih _ a1 a2 c1 c2 w2 (by omega) g2 g3 (MA_below y2 hx2) (MA_below z2 hx2))

theorem eqTermS_same (f : TM) (a a' : Option Addr) (c c' : Nat) (w : World) (hl : tlen f ≤ 1000000000) (hm : TSm f) (hT : MA w 0 f a) (hT' : MA w 0 f a') :
    Calls Tryz.prog 82 #[.slice a (tlen f) c, .slice a' (tlen f) c'] w fun e w' => e = .returned (.bool true) ∧ Ex w w' := eqTermS_all (tdep f + 1) f a a' c c' w (by omega) hl hm hT hT'

end Go.Proofs.YtldbmlojgakieaaGreatDoor
