/- Walks: a body that is ok. -/
import Derived.Test.YtgpdnoghlommeaaGreatDoorGBD4

namespace Go.Proofs.YtgpdnoghlommeaaGreatDoor

open Go.RowKit Go.Deep

attribute [local go_sem ↓] Go.wp_at_zero Go.wp_at_succ

theorem own_none_texts {w : World} (t : TypeId) {base : Nat} (hb : base ≤ w.heap.size) : (w.alloc (.cells #[] t)).ownsRow base t 1 (.slice (some ⟨w.heap.size, 0, none⟩) 0 0) 0 [] :=
  ⟨rfl, Or.inr ⟨w.heap.size, 0, #[], rfl, hb, heap_alloc_new _ _, Nat.le_refl _, by unfold maxLen; omega, rfl, rfl⟩⟩

theorem row_ex {w w' : World} {base n size : Nat} {e : TypeId} {v : Value} {xs : List Value} (h : w.ownsRow base e size v n xs) (hx : Ex w w') : w'.ownsRow base e size v n xs := by
  obtain ⟨h0, h | ⟨g, cap, cur, h1, h2, h3, h4⟩⟩ := h
  · exact ⟨h0, Or.inl h⟩
  · exact ⟨h0, Or.inr ⟨g, cap, cur, h1, h2, hx.blk h3, h4⟩⟩
theorem infoText : (Tryz.prog.info? 9).map (fun i => (i.zero, i.size, i.bytes)) = some (some (.string ⟨#[]⟩), 1, 16) := by kernel_rfl

theorem nsAt_len {ns : List ByteArray} {b : BD} : ∀ j, (∀ i, i < j → (bnames b i).length ≤ 60) → (nsAt ns b j).length ≤ ns.length + 60 * j
  | 0, _ => by simp [nsAt]
  | j + 1, h => by
    have h1 := nsAt_len (ns := ns) j fun i hi => h i (by omega)
    have h2 := h j (by omega)
    simp only [nsAt, List.length_append]
    omega

set_option maxRecDepth 100000 in
set_option maxHeartbeats 4000000 in
theorem l12Body_any (l : List PM) (la : Option Addr) (lc at_ : Nat) (hat : at_ ≤ l.length) (hl : l.length ≤ 1000000000) : ∀ (d : Nat) (ns : List ByteArray) (na : Option Addr) (nc : Nat) (b : BD) (ba : Option Addr) (bc : Nat) (z : TM) (za : Option Addr) (zc : Nat) (w : World), d ≤ 6 → ns.length + 25000 * d ≤ 200000 → blen b ≤ 1000000000 → BSm b → tlen z ≤ 1000000000 →
    QA w 0 l la → XA w 0 ns na → BA w 0 b ba → MA w 0 z za →
    Calls Tryz.prog 50 #[.slice la l.length lc, .int .i64 at_, .slice na ns.length nc, .agg #[.slice ba (blen b) bc, .slice za (tlen z) zc], .int .i64 d] w fun e w' => e = .returned (.bool (bodyB (l.take at_) d ns b z)) ∧ Ex w w' := by
  intro d
  induction d with
  | zero =>
    intro ns na nc b ba bc z za zc w _ _ _ _ _ _ _ _ _
    go_enter Tryz.func50, Tryz.ntmps50
    go_wp2_with fail
    go_ret
    exact ⟨ret_b rfl, Ex.new _ _⟩
  | succ d ih =>
    intro ns na nc b ba bc z za zc w hd hns hbl hsm hzl hQ hX hB hM
    have Q : Hid (∀ w', Ex w w' → QA w' 0 l la) := fun _ h => QA_below hQ h
    have X : Hid (∀ w', Ex w w' → XA w' 0 ns na) := fun _ h => XA_below hX h
    have B : Hid (∀ w', Ex w w' → BA w' 0 b ba) := fun _ h => BA_below hB h
    have M : Hid (∀ w', Ex w w' → MA w' 0 z za) := fun _ h => MA_below hM h
    have SM : Hid (BSm b) := hsm
    have I : Hid _ := ih
    have N : Hid (Ex w (w.alloc (.cells #[.slice ba (blen b) bc, .slice za (tlen z) zc] 59))) := Ex.new _ _
    have C : Hid (∀ w', Ex (w.alloc (.cells #[.slice ba (blen b) bc, .slice za (tlen z) zc] 59)) w' → w'.cell? ⟨w.heap.size, 0, none⟩ = some (.slice ba (blen b) bc) ∧ w'.cell? ⟨w.heap.size, 1, none⟩ = some (.slice za (tlen z) zc)) := fun w' h => ⟨h.at (by simp), h.at (by simp)⟩
    obtain ⟨R, hR⟩ : ∃ R, R = bodyB (l.take at_) (d + 1) ns b z := ⟨_, rfl⟩
    have RR : Hid (R = bodyB (l.take at_) (d + 1) ns b z) := hR
    rw [← hR]
    obtain ⟨D, hD⟩ : ∃ D : Int, D = ((d + 1 : Nat) : Int) := ⟨_, rfl⟩
    have HD : Hid (D = ((d + 1 : Nat) : Int)) := hD
    rw [← hD]
    have d0 : decide (D < 1) = false := decide_eq_false (by omega)
    clear hQ hX hB hM hR hD hsm ih
    by_cases h4 : 400 < blen b
    · have HR : Hid (R = false) := RR.out.trans (bodyB_len h4)
      have e1 : decide ((400 : Int) < (blen b : Int)) = true := decide_eq_true (by omega)
      go_enter Tryz.func50, Tryz.ntmps50
      go_wp2_with fail
      go_ret
      exact ⟨ret_b HR.out.symm, N.out⟩
    have e1 : decide ((400 : Int) < (blen b : Int)) = false := decide_eq_false (by omega)
    obtain ⟨i0, hi, hz0, hz1, hz2⟩ := info_parts infoText
    obtain ⟨W, hW⟩ : ∃ W, W = w.alloc (.cells #[.slice ba (blen b) bc, .slice za (tlen z) zc] 59) := ⟨_, rfl⟩
    rw [← hW] at N C
    have HW : Hid (w.alloc (.cells #[.slice ba (blen b) bc, .slice za (tlen z) zc] 59) = W) := hW.symm
    have zW : W.heap.size = w.heap.size + 1 := by rw [hW, World.size_alloc]
    have ZW : Hid (W.heap.size = w.heap.size + 1) := zW
    have X0 : Hid (Ex W (W.alloc (.cells #[] 9))) := Ex.new _ _
    have O0 : Hid ((W.alloc (.cells #[] 9)).ownsRow W.heap.size 9 1 (.slice (some ⟨w.heap.size + 1, 0, none⟩) 0 0) 0 []) := by
      have := own_none_texts (w := W) 9 (Nat.le_refl _)
      rw [zW] at this ⊢
      exact this
    clear zW hW
    go_enter Tryz.func50, Tryz.ntmps50
    go_wp2_with (at_builtin; rw [HW.out]; refine wpList_append_vals rfl _ _ 40 rfl W X0.out 9 i0 (.string ⟨#[]⟩) 16 Tryz.underlying40 hi hz0 hz1 hz2 rfl (by decide) (.slice (some ⟨w.heap.size + 1, 0, none⟩) 0 0) 0 [] rfl O0.out na nc ns.length (ns.map Value.string) rfl (by simp) (LS_texts (X.out _ (N.out.trans X0.out))) one_texts (by omega) ?_)
    intro v1 w1 hown1 hg1 hx1
    have O1 : Hid (w1.ownsRow W.heap.size 9 1 v1 ns.length (ns.map Value.string)) := by
      first | exact hown1 | (have := hown1; rw [Nat.zero_add, List.nil_append] at this; exact this)
    have X1 : Hid (Ex W w1) := hx1
    obtain ⟨c0, c1⟩ := C.out w1 hx1
    clear hown1 hg1 hx1 O0 X0
    go_wp2_with fail
    go_loopw [2, 11] (fun nv i wr => ∃ (j : Nat), j ≤ blen b ∧ i = .int .i64 j ∧ (∀ k, k < j → bindAt (l.take at_) (bodyB (l.take at_) d) ns b k = true) ∧ wr.ownsRow W.heap.size 9 1 nv (nsAt ns b j).length ((nsAt ns b j).map Value.string) ∧ Ex W wr) (fun _ i _ => blen b - (intOf i).toNat)
    case atStart => exact ⟨0, by omega, rfl, fun j hj => by omega, O1.out, X1.out⟩
    case round =>
      obtain ⟨j, hj, rfl, hall, hown, hx⟩ := hrel
      have A : Hid (∀ k, k < j → bindAt (l.take at_) (bodyB (l.take at_) d) ns b k = true) := hall
      have E : Hid (Ex W wr) := hx
      clear c0 c1 O1 X1
      obtain ⟨c0, c1⟩ := C.out wr hx
      have hlen : (nsAt ns b j).length ≤ ns.length + 60 * j := nsAt_len j fun i hi => bind_names (A.out i hi)
      obtain ⟨va, vc, rfl, hxa⟩ := own_texts hown rfl
      have O : Hid _ := hown
      have XN : Hid (∀ w', Ex wr w' → XA w' 0 (nsAt ns b j) va) := fun _ h => XA_below (XA_lo hxa (Nat.zero_le _)) h
      clear hall hx hown hxa
      by_cases hlt : j < blen b
      · obtain ⟨bb, o, rfl, _, hbs, hk⟩ := BA_at (B.out wr (N.out.trans E.out)) (by omega)
        obtain ⟨b0, ⟨a1, k1, b1, hnc, x1⟩, b2, ⟨a3, k3, b3, x3⟩, ⟨a4, k4, b4, x4⟩, ⟨a5, k5, b5, x5⟩, ⟨a6, k6, b6, x6⟩, ⟨a7, k7, b7, x7⟩⟩ := hk j hlt
        obtain ⟨s1, s2, s3, s4, s5, s6, s7, s8⟩ := BSm_at SM.out j hlt
        have HI : Hid (∀ w', Ex wr w' → Calls Tryz.prog 75 #[.slice la l.length lc, .int .i64 at_, .slice va (nsAt ns b j).length vc, .agg #[.int .i64 (bkind b j), .slice a1 (bnames b j).length k1, .string (bfn b j), .slice a3 (tlen (bterms b j)) k3, .slice a4 (blen (bthen b j)) k4, .slice a5 (tlen (btsay b j)) k5, .slice a6 (blen (belse b j)) k6, .slice a7 (tlen (besay b j)) k7], .int .i64 D] w' fun e w'' => e = .returned (.bool (bindAt (l.take at_) (bodyB (l.take at_) d) ns b j)) ∧ Ex w' w'') := fun w' h => by
          have e1 : Ex w w' := N.out.trans (E.out.trans h)
          have := l12Bind_any l la lc at_ hat hl (nsAt ns b j) va vc (by omega) (bodyB (l.take at_) d) (bkind b j) (bnames b j) a1 k1 (bfn b j) (bterms b j) a3 k3 (bthen b j) a4 k4 (btsay b j) a5 k5 (belse b j) a6 k6 (besay b j) a7 k7 d (by omega) w' s3 s5 s6 s8 hnc (Q.out w' e1) (XN.out w' h) (XA_below x1 h) (MA_below x3 h)
            (fun w2 h2 => I.out _ _ _ _ _ _ _ _ _ w2 (by omega) (by omega) s3 s4 s5 (Q.out w2 (e1.trans h2)) (XN.out w2 (h.trans h2)) (BA_below x4 (h.trans h2)) (MA_below x5 (h.trans h2)))
            (fun w2 h2 => I.out _ _ _ _ _ _ _ _ _ w2 (by omega) (by omega) s6 s7 s8 (Q.out w2 (e1.trans h2)) (XN.out w2 (h.trans h2)) (BA_below x6 (h.trans h2)) (MA_below x7 (h.trans h2)))
          rw [← HD.out] at this
          exact this
        have U : Hid (bindAt (l.take at_) (bodyB (l.take at_) d) ns b j = true → ∀ k, k < j + 1 → bindAt (l.take at_) (bodyB (l.take at_) d) ns b k = true) := fun h => upto_succ A.out h
        have V : Hid (bindAt (l.take at_) (bodyB (l.take at_) d) ns b j = false → R = false) := fun h => RR.out.trans (bodyB_no hlt h)
        have L60 : Hid (bindAt (l.take at_) (bodyB (l.take at_) d) ns b j = true → (bnames b j).length ≤ 60) := bind_names
        have XM : Hid (∀ w', Ex wr w' → XA w' 0 (bnames b j) a1) := fun _ h => XA_below x1 h
        have KC : Hid (∀ w', Ex wr w' → w'.cell? ⟨bb, o + j * 8 + 1, none⟩ = some (.slice a1 (bnames b j).length k1)) := fun _ h => h.at b1
        clear hk x1 x3 x4 x5 x6 x7 s1 s2 s3 s4 s5 s6 s7 s8
        go_wp2_with fail
        refine (HI.out _ (Ex.refl _)).mono ?_
        rintro e w2 ⟨rfl, hb2⟩
        obtain ⟨r, hr⟩ : ∃ r, bindAt (l.take at_) (bodyB (l.take at_) d) ns b j = r := ⟨_, rfl⟩
        rw [hr] at U V L60 ⊢
        clear hr HI b0 b1 b2 b3 b4 b5 b6 b7 c0 c1
        cases r with
        | false =>
          have HR : Hid (R = false) := V.out rfl
          go_wp2_with fail
          go_ret
          exact ⟨ret_b HR.out.symm, N.out.trans (E.out.trans hb2)⟩
        | true =>
          have HU : Hid _ := U.out rfl
          have h60 := L60.out rfl
          have b1 := KC.out w2 hb2
          obtain ⟨c0, c1⟩ := C.out w2 (E.out.trans hb2)
          have O2 : Hid (w2.ownsRow W.heap.size 9 1 (.slice va (nsAt ns b j).length vc) (nsAt ns b j).length ((nsAt ns b j).map Value.string)) := row_ex O.out hb2
          have X2 : Hid (Ex W w2) := E.out.trans hb2
          have L2 : Hid (LS w2 ((bnames b j).map Value.string) a1) := LS_texts (XM.out w2 hb2)
          clear U V L60 KC XM
          go_wp2_with (at_builtin; refine wpList_append_vals rfl _ _ 40 rfl W X2.out 9 i0 (.string ⟨#[]⟩) 16 Tryz.underlying40 hi hz0 hz1 hz2 rfl (by decide) (.slice va (nsAt ns b j).length vc) (nsAt ns b j).length ((nsAt ns b j).map Value.string) rfl O2.out a1 k1 (bnames b j).length ((bnames b j).map Value.string) rfl (by simp) L2.out one_texts (by omega) ?_)
          intro v3 w3 hown3 hg3 hx3
          have O3 : Hid (w3.ownsRow W.heap.size 9 1 v3 (nsAt ns b (j + 1)).length ((nsAt ns b (j + 1)).map Value.string)) := by
            show World.ownsRow _ _ _ _ _ _ _
            simp only [nsAt, List.length_append, List.map_append]
            exact hown3
          have X3 : Hid (Ex W w3) := hx3
          clear hown3 hg3 hx3
          go_wp2_with fail
          go_roundw
          case rel => exact ⟨j + 1, by omega, by go_num, HU.out, O3.out, X3.out⟩
          case measure => simp [intOf]; omega
      · have hje : j = blen b := by omega
        have HR : Hid (R = termsB (nsAt ns b (blen b)) z) := RR.out.trans (bodyB_end (by omega) fun i hi => A.out i (by omega))
        have LT : Hid (∀ w', Ex wr w' → Calls Tryz.prog 76 #[.slice va (nsAt ns b j).length vc, .slice za (tlen z) zc] w' fun e w'' => e = .returned (.bool R) ∧ Ex w' w'') := fun w' h => by
          have := l12Terms_any (nsAt ns b j) va vc (by omega) z za zc w' (XN.out w' h) (M.out w' (N.out.trans (E.out.trans h)))
          rw [hje, ← HR.out] at this
          rw [hje]; exact this
        clear hje
        go_wp2_with fail
        refine (LT.out _ (Ex.refl _)).mono ?_
        rintro e w2 ⟨rfl, hb2⟩
        go_wp2_with fail
        go_ret
        exact ⟨rfl, N.out.trans (E.out.trans hb2)⟩

end Go.Proofs.YtgpdnoghlommeaaGreatDoor
