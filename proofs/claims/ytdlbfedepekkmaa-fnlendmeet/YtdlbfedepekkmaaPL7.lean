/- The law on places that meet, walked. -/
import Derived.Test.YtdlbfedepekkmaaPL6

import Derived.Deep.CutRange

import Derived.Deep.RegionHeldLaw

namespace Go.Proofs.Ytdlbfedepekkmaa

open Go.RowKit Go.Deep

attribute [local go_sem ↓] Go.wp_at_zero Go.wp_at_succ

theorem meetL_symm : ∀ (p q : List Int), meetL p q = meetL q p
  | [], [] => rfl
  | [], _ :: _ => rfl
  | _ :: _, [] => rfl
  | x :: p, y :: q => by
    simp only [meetL, meetL_symm p q]
    rw [show (x == y) = (y == x) from BEq.comm]
theorem meetB_symm (s t : ByteArray) (p q : List Int) : meetB s t p q = meetB t s q p := by
  simp only [meetB, meetL_symm p q]
  rw [show (s.toList == t.toList) = (t.toList == s.toList) from BEq.comm]
theorem lendB_symm (s t : ByteArray) (p q : List Int) : lendB s t p q = lendB t s q p := by
  simp only [lendB, meetB_symm s t p q, Bool.and_comm (placeB s p)]
theorem meetL_pre : ∀ (p r : List Int), meetL p (p ++ r) = true
  | [], r => by simp [meetL]
  | x :: p, r => by simp [meetL, meetL_pre p r]
theorem lendB_self (s : ByteArray) (p : List Int) : lendB s s p p = placeB s p := by
  have := meetL_pre p []
  rw [List.append_nil] at this
  simp [lendB, meetB, this]
theorem lendB_part {s : ByteArray} {p : List Int} {x : Int} (h : lendB s s p p = true) (hx : x = 0 ∨ x = 1) (hl : p.length + 1 ≤ 4) : lendB s s p (p ++ [x]) = true := by
  rw [lendB_self] at h
  have h2 : placeB s (p ++ [x]) = true := by
    simp only [placeB, Bool.and_eq_true, List.all_append, decide_eq_true_eq, List.length_append, List.length_cons, List.length_nil] at h ⊢
    refine ⟨⟨h.1.1, hl⟩, h.2, ?_⟩
    rcases hx with rfl | rfl <;> rfl
  simp [lendB, meetB, h, h2, meetL_pre]
theorem lendB_meets {s t : ByteArray} {p q : List Int} (h : lendB s t p q = true) : lendB s s p p = true := by
  rw [lendB_self]
  simp only [lendB, Bool.and_eq_true] at h
  exact h.1.1

theorem step_append_none {P : Program} {w : World} {ops : Array Oper} {o : Oper} {a : Act} {K : Act → World → Prop} {Q : Exit → Act → World → Prop} {E : Prop} (hgd : o.guard = none) (s x : Operand) (t : TypeId)
    (ho : o.op = .call { callee := .builtin .append, args := #[s, x], argTypes := #[t, t] })
    (base : Nat) (e : TypeId) (i : TypeInfo) (size : Nat) (ht : P.underlying t = some (.slice e)) (hi : P.info? e = some i)
    (v : Value) (n : Nat) (xs : List Value) (hs : a.eval s = v) (hown : w.ownsRow base e size v n xs) (hx : a.eval x = .slice none 0 0)
    (h : K (a.put o.dst v) w) :
    if Region.wanted o (yielded ops a.tmps) = true then Oper.wp P o a w K Q else E := by
  have hw : Region.wanted o (yielded ops a.tmps) = true := by simp [Region.wanted, hgd]
  rw [if_pos hw]
  have hrun := run_append_owned_none (P := P) (w := w) base t o.type e i size ht hi v n xs hown
  unfold Oper.wp
  simp [execOp, ho, resolve, invoke, builtin, hs, hx, hrun, Result.andThen]
  exact h

theorem own_empty {w : World} {B base : Nat} (h : w.heap[B]? = some (.cells #[] 3 (0, 0))) (hb : base ≤ B) : w.ownsRow base 3 1 (.slice (some ⟨B, 0, none⟩) 0 0) 0 [] :=
  ⟨rfl, Or.inr ⟨B, 0, #[], rfl, hb, h, Nat.le_refl _, by unfold maxLen; omega, rfl, rfl⟩⟩
theorem ex_grown {a b c : World} {v : Value} (h : Ex a b) (hg : b.grownBy c v.ownBlock) (hr : ∀ k, v.ownBlock = some k → a.heap.size ≤ k) : Ex a c :=
  ⟨hg.os.trans h.os, hg.tape.trans h.tape, hg.output.trans h.output, Nat.le_trans h.size hg.size, fun k hk => (hg.block k (Nat.lt_of_lt_of_le hk h.size) (fun e => by have := hr k e.symm; omega)).trans (h.block k hk)⟩
theorem own_ne {w : World} {base n k : Nat} {e t : TypeId} {v : Value} {xs : List Value} {cs : Array Value} {fr : Nat × Nat} (h : w.ownsRow base e 1 v n xs) (hk : w.heap[k]? = some (.cells cs t fr)) (ht : t ≠ e) : some k ≠ v.ownBlock := by
  obtain ⟨_, ⟨rfl, _⟩ | ⟨g, cap, cur, rfl, hb, hg, _⟩⟩ := h
  · intro hh; cases hh
  · intro hh
    cases hh
    rw [hg] at hk
    injection hk with hk
    injection hk with _ hk _
    exact ht hk.symm

theorem carry9 {W w7 : World} {base n K : Nat} {e t : TypeId} {v : Value} {xs : List Value} {cs : Array Value} {fr : Nat × Nat} (hg : W.grownBy w7 v.ownBlock) (h : W.ownsRow base e 1 v n xs) (hk : W.heap[K]? = some (.cells cs t fr)) (ht : t ≠ e) : w7.heap[K]? = some (.cells cs t fr) :=
  (hg.block _ (lt_of_block hk) (own_ne h hk ht)).trans hk

theorem cut_in {A B : Prop} (a : A) (b : A → B) : B := b a
theorem alloc_look (w : World) (o : Obj) (n : Nat) : (w.alloc o).heap[n]? = if n = w.heap.size then some o else w.heap[n]? := by
  simp only [World.alloc, Array.getElem?_push]
theorem drew_look (w : World) : w.drew.heap = w.heap := rfl
theorem look : (∀ (w : World) (o : Obj) (n : Nat), (w.alloc o).heap[n]? = if n = w.heap.size then some o else w.heap[n]?) ∧ (∀ w : World, w.drew.heap = w.heap) ∧ (∀ (w : World) (o : Obj), (w.alloc o).heap.size = w.heap.size + 1) ∧ (∀ a b : Option Obj, (if True then a else b) = a) :=
  ⟨alloc_look, drew_look, fun _ _ => World.size_alloc .., fun _ _ => if_true ..⟩
theorem grown_refl (w : World) (o : Option Nat) : w.grownBy w o := ⟨rfl, rfl, rfl, Nat.le_refl _, fun _ _ _ => rfl⟩

/-- Numbers, in memory or none, put behind what is owned. -/
theorem step_append_ints {P : Program} {w : World} {ops : Array Oper} {o : Oper} {a : Act} {K : Act → World → Prop} {Q : Exit → Act → World → Prop} {E : Prop} (hgd : o.guard = none) (s x : Operand) (t : TypeId)
    (ho : o.op = .call { callee := .builtin .append, args := #[s, x], argTypes := #[t, t] })
    (w0 : World) (hE : Ex w0 w) (e : TypeId) (i : TypeInfo) (ht : P.underlying t = some (.slice e)) (hi : P.info? e = some i) (hz : i.zero = some (.int .i64 0)) (hsize : i.size = 1) (hby : i.bytes = 8)
    (v : Value) (n : Nat) (xs : List Value) (hs : a.eval s = v) (hown : w.ownsRow w0.heap.size e 1 v n xs)
    (pa : Option Addr) (pc : Nat) (p : List Int) (hx : a.eval x = .slice pa p.length pc) (hP : PA w 0 p pa) (hN : (pa = none ∧ pc = 0) ∨ ∃ g, pa = some ⟨g, 0, none⟩)
    (h63 : n + p.length ≤ 1000000)
    (h : ∀ v' w', w'.ownsRow w0.heap.size e 1 v' (n + p.length) (xs ++ p.map (Value.int .i64)) → Hid (∀ (k : Nat) (o : Obj), w.heap[k]? = some o → some k ≠ v.ownBlock → w'.heap[k]? = some o) → Hid (∀ (k : Nat) (cs : Array Value) (t : TypeId) (fr : Nat × Nat), w.heap[k]? = some (Obj.cells cs t fr) → t ≠ e → w'.heap[k]? = some (Obj.cells cs t fr)) → Ex w0 w' → K (a.put o.dst v') w') :
    if Region.wanted o (yielded ops a.tmps) = true then Oper.wp P o a w K Q else E := by
  have hbase := hE.size
  have h' : ∀ v' w', w'.ownsRow w0.heap.size e 1 v' (n + p.length) (xs ++ p.map (Value.int .i64)) → w.grownBy w' v.ownBlock → K (a.put o.dst v') w' := fun v' w' h1 h2 =>
    h v' w' h1 (fun k o hk hne => (h2.block k (by rcases Nat.lt_or_ge k w.heap.size with h | h; exact h; rw [Array.getElem?_eq_none h] at hk; cases hk) hne).trans hk) (fun k cs t fr hk ht => (h2.block k (lt_of_block hk) (own_ne hown hk ht)).trans hk) (ex_grown hE h2 (owns_row hown))
  clear h
  rcases hN with ⟨rfl, rfl⟩ | ⟨g, rfl⟩
  · have h0 : p = [] := by
      rcases hP with h | ⟨b, o, e, _⟩
      · exact List.length_eq_zero_iff.mp h
      · cases e
    subst h0
    have := h' v w (by simpa using hown) (grown_refl _ _)
    exact step_append_none hgd s x t ho w0.heap.size e i 1 ht hi v n xs hs hown hx this
  · refine step_append_own' hgd s x t ho w0.heap.size e i (.int .i64 0) 1 8 ht hi hz hsize hby rfl (by omega) v n xs hs hown ⟨g, 0, none⟩ p.length pc (p.map (Value.int .i64)) hx (by rw [List.length_map]; omega) ?_ (fun u hu => by obtain ⟨_, _, rfl⟩ := List.mem_map.mp hu; rfl) (by unfold maxLen; omega) (by omega) hbase h'
    intro j u hu
    have hj : j < p.length := by
      rcases Nat.lt_or_ge j p.length with hh | hh
      · exact hh
      · rw [List.getElem?_eq_none (by simpa using hh)] at hu; cases hu
    obtain ⟨b', o', e', _, _, hcell⟩ := PA_at hP (by omega)
    cases e'
    have := hcell j hj
    rw [Nat.zero_add] at this
    rw [Go.WideShapes.add_plain, Nat.zero_add, this]
    rw [List.getElem?_map] at hu
    simp [List.getD, hj] at hu ⊢
    exact hu

theorem ex_set2 {a b : World} (h : Ex a b) {B : Nat} (hB : a.heap.size ≤ B) (v v' : Value) : Ex a ((b.setCell ⟨B, 0, none⟩ v).setCell ⟨B, 1, none⟩ v') := (h.set (show a.heap.size ≤ B from hB) _).set (show a.heap.size ≤ B from hB) _

theorem PA_set2 {w : World} {B : Nat} {u : ByteArray} {c : Option Addr} {d e : Nat} {t : TypeId} {v v' : Value} {p : List Int} {a : Option Addr} (h : PA w 0 p a) (hb : w.heap[B]? = some (.cells #[.string u, .slice c d e] t (0, 0))) : PA ((w.setCell ⟨B, 0, none⟩ v).setCell ⟨B, 1, none⟩ v') 0 p a := by
  rcases h with h | ⟨b, o, e', hl, hc⟩
  · exact Or.inl h
  · refine Or.inr ⟨b, o, e', hl, fun i hi => ?_⟩
    have h1 := hc i hi
    have hne : b ≠ B := by
      rintro rfl
      simp only [World.cell?, hb] at h1
      rcases Nat.lt_or_ge (o + i) 2 with h2 | h2
      · have : o + i = 0 ∨ o + i = 1 := by omega
        rcases this with e | e <;> rw [e] at h1 <;> simp at h1
      · rw [Array.getElem?_eq_none (by simpa using h2)] at h1
        cases h1
    rw [World.cell?_setCell_other _ _ _ _ (fun e => hne (congrArg Addr.block e).symm), World.cell?_setCell_other _ _ _ _ (fun e => hne (congrArg Addr.block e).symm)]
    exact h1

theorem PA_one {w : World} {b : Nat} {x : Int} {fr : Nat × Nat} (h : w.heap[b]? = some (.cells #[.int .i64 x] 3 fr)) : PA w 0 [x] (some ⟨b, 0, none⟩) := by
  refine Or.inr ⟨b, 0, rfl, Nat.zero_le _, fun i hi => ?_⟩
  have : i = 0 := by simpa using hi
  subst this
  simp [World.cell?, h]

set_option maxRecDepth 100000 in
set_option maxHeartbeats 4000000 in
theorem lawLendMeet (n cc m' mc : Nat) (ca ma : Option Addr) (w : World) (hn : n ≤ cc) (hc : cc ≤ 9223372036854775807) (hB : By w n ca) :
    Calls Try.prog 3 #[.slice ca n cc, .slice ma m' mc] w fun e w' => e = .returned (.bool true) ∧ Ex w w' := by
  have B : Hid (By w n ca) := hB
  clear hB
  by_cases hbig : 1048576 < n
  · have d1 : decide ((1048576 : Int) < (n : Int)) = true := by simp; omega
    go_enter Try.func3, Try.ntmps3
    go_wp2_with fail
    go_ret
    exact ⟨rfl, Ex.refl _⟩
  have d1 : decide ((1048576 : Int) < (n : Int)) = false := by simp; omega
  by_cases hbig2 : 1048576 < m'
  · have d2 : decide ((1048576 : Int) < (m' : Int)) = true := by simp; omega
    go_enter Try.func3, Try.ntmps3
    go_wp2_with fail
    go_ret
    exact ⟨rfl, Ex.refl _⟩
  have d2 : decide ((1048576 : Int) < (m' : Int)) = false := by simp; omega
  go_enter Try.func3, Try.ntmps3
  go_wp2_with fail
  refine (DrawLendMeet_any n cc ca w hn hc B.out).mono ?_
  rintro e w1 ⟨s, t, p, q, pa, qa, pc, qc, rfl, hP, hQ, hpl, hql, hpc, hqc, hpn, hb1⟩
  have P : Hid (∀ w', Ex w1 w' → PA w' 0 p pa) := fun _ h => PA_below hP h
  have Q : Hid (∀ w', Ex w1 w' → PA w' 0 q qa) := fun _ h => PA_below hQ h
  have X1 : Hid (Ex w w1) := hb1
  have PN : Hid ((pa = none ∧ pc = 0) ∨ ∃ g, pa = some ⟨g, 0, none⟩) := hpn
  obtain ⟨W1, hW1⟩ : ∃ W1, W1 = (w1.alloc (.cells #[.string s, .slice pa p.length pc] 25)).alloc (.cells #[.string t, .slice qa q.length qc] 25) := ⟨_, rfl⟩
  have N1 : Hid (Ex w1 W1) := hW1 ▸ (Ex.new _ _).alloc _
  have KS : Hid (∀ w', Ex W1 w' → (Ex W1 w' ∧ w'.cell? ⟨w1.heap.size, 0, none⟩ = some (.string s) ∧ w'.cell? ⟨w1.heap.size, 1, none⟩ = some (.slice pa p.length pc) ∧ w'.cell? ⟨w1.heap.size + 1, 0, none⟩ = some (.string t) ∧ w'.cell? ⟨w1.heap.size + 1, 1, none⟩ = some (.slice qa q.length qc))) := fun w' h => ⟨h, h.at (hW1 ▸ by simp), h.at (hW1 ▸ by simp), h.at (hW1 ▸ by simp), h.at (hW1 ▸ by simp)⟩
  have IAB : Hid (∀ w', Ex W1 w' → Calls Try.prog 6 #[.agg #[.string s, .slice pa p.length pc], .agg #[.string t, .slice qa q.length qc]] w' fun e w'' => e = .returned (.bool (lendB s t p q)) ∧ Ex w' w'') := fun w' h => iLendMeet_any s t p q pa qa pc qc w' (P.out _ (N1.out.trans h)) (Q.out _ (N1.out.trans h)) (by omega) (by omega) hpc.1 hpc.2
  have SAB : Hid (∀ w', Ex W1 w' → Calls Try.prog 7 #[.agg #[.string s, .slice pa p.length pc], .agg #[.string t, .slice qa q.length qc]] w' fun e w'' => e = .returned (.bool (lendB s t p q)) ∧ Ex w' w'') := fun w' h => sLendMeet_any s t p q pa qa pc qc w' (P.out _ (N1.out.trans h)) (Q.out _ (N1.out.trans h)) (by omega) (by omega)
  have IBA : Hid (∀ w', Ex W1 w' → Calls Try.prog 6 #[.agg #[.string t, .slice qa q.length qc], .agg #[.string s, .slice pa p.length pc]] w' fun e w'' => e = .returned (.bool (lendB s t p q)) ∧ Ex w' w'') := fun w' h => by
    rw [lendB_symm s t p q]; exact iLendMeet_any t s q p qa pa qc pc w' (Q.out _ (N1.out.trans h)) (P.out _ (N1.out.trans h)) (by omega) (by omega) hpc.2 hpc.1
  have IAA : Hid (∀ w', Ex W1 w' → Calls Try.prog 6 #[.agg #[.string s, .slice pa p.length pc], .agg #[.string s, .slice pa p.length pc]] w' fun e w'' => e = .returned (.bool (lendB s s p p)) ∧ Ex w' w'') := fun w' h => iLendMeet_any s s p p pa pa pc pc w' (P.out _ (N1.out.trans h)) (P.out _ (N1.out.trans h)) (by omega) (by omega) hpc.1 hpc.1
  have SAA : Hid (∀ w', Ex W1 w' → Calls Try.prog 7 #[.agg #[.string s, .slice pa p.length pc], .agg #[.string s, .slice pa p.length pc]] w' fun e w'' => e = .returned (.bool (lendB s s p p)) ∧ Ex w' w'') := fun w' h => sLendMeet_any s s p p pa pa pc pc w' (P.out _ (N1.out.trans h)) (P.out _ (N1.out.trans h)) (by omega) (by omega)
  have IAP : Hid (∀ w' r ra rc, r.length ≤ 6 → r.length ≤ rc → PA w' 0 r ra → Ex W1 w' → Calls Try.prog 6 #[.agg #[.string s, .slice pa p.length pc], .agg #[.string s, .slice ra r.length rc]] w' fun e w'' => e = .returned (.bool (lendB s s p r)) ∧ Ex w' w'') := fun w' r ra rc h1 h2 h3 h => iLendMeet_any s s p r pa ra pc rc w' (P.out _ (N1.out.trans h)) h3 (by omega) (by omega) hpc.1 h2
  have HM : Hid (lendB s t p q = true → lendB s s p p = true) := lendB_meets
  have HP : Hid (∀ x : Int, lendB s s p p = true → (x = 0 ∨ x = 1) → p.length + 1 ≤ 4 → lendB s s p (p ++ [x]) = true) := fun x h hx hl => lendB_part h hx hl
  generalize lendB s t p q = M at *
  generalize lendB s s p p = L at *
  clear hP hQ hb1 hpn
  go_wp2_with fail
  rw [← hW1]
  clear hW1
  obtain ⟨_, c1, c2, c3, c4⟩ := KS.out W1 (Ex.refl _)
  go_wp2_with fail
  refine (IAB.out W1 (Ex.refl _)).mono ?_
  rintro e w2 ⟨rfl, hb2⟩
  clear c1 c2 c3 c4
  obtain ⟨_, c1, c2, c3, c4⟩ := KS.out w2 hb2
  have hne : (M != M) = false := by cases M <;> rfl
  go_wp2_with fail
  refine (SAB.out w2 hb2).mono ?_
  rintro e w3 ⟨rfl, hb3⟩
  have hx3 := hb2.trans hb3
  clear c1 c2 c3 c4
  obtain ⟨_, c1, c2, c3, c4⟩ := KS.out w3 hx3
  go_wp2_with fail
  refine (IBA.out w3 hx3).mono ?_
  rintro e w4 ⟨rfl, hb4⟩
  have hx4 := hx3.trans hb4
  clear c1 c2 c3 c4
  obtain ⟨_, c1, c2, c3, c4⟩ := KS.out w4 hx4
  go_wp2_with fail
  refine (IAA.out w4 hx4).mono ?_
  rintro e w5 ⟨rfl, hb5⟩
  have X5 : Hid (Ex W1 w5) := hx4.trans hb5
  clear c1 c2 c3 c4 hb2 hb3 hb4 hb5 hx3 hx4
  obtain ⟨_, c1, c2, c3, c4⟩ := KS.out w5 X5.out
  obtain ⟨i0, hi, hz0, hz1, hz2⟩ := info_parts Try.info3
  obtain ⟨x, hx⟩ : ∃ x, (m' : Int).tmod 2 = x := ⟨_, rfl⟩
  have hx2 : (m' : Int) % 2 = x := by rw [← hx, Int.tmod_eq_emod_of_nonneg (by omega)]
  have hx01 : x = 0 ∨ x = 1 := by omega
  have KS5 : Hid (∀ w', Ex w5 w' → Ex w5 w' ∧ w'.cell? ⟨w1.heap.size, 0, none⟩ = some (.string s) ∧ w'.cell? ⟨w1.heap.size, 1, none⟩ = some (.slice pa p.length pc)) := fun w' h => ⟨h, h.at c1, h.at c2⟩
  have zA : w1.heap.size < w5.heap.size := World.block_lt_of_cell? _ _ c1
  have P5 : Hid (∀ w', Ex w5 w' → PA w' 0 p pa) := fun w' h => P.out w' (N1.out.trans (X5.out.trans h))
  go_upto_region 8 with fail
  go_cut [9] from 41 to 52 (fun p9 wx => Ex w5 wx ∧ ∃ pb la lc, p9 = .pointer (some ⟨pb, 0, none⟩) ∧ wx.cell? ⟨pb, 0, none⟩ = some (.string s) ∧ wx.cell? ⟨pb, 1, none⟩ = some (.slice la (p.length + 1) lc) ∧ PA wx 0 (p ++ [x]) la ∧ p.length + 1 ≤ lc)
  case first =>
    go_region_held_law (fun w' => Ex w5 w' ∧ w'.cell? ⟨w1.heap.size, 0, none⟩ = some (.string s) ∧ w'.cell? ⟨w1.heap.size, 1, none⟩ = some (.slice pa p.length pc)) ((refine KS5.out _ ?_; first | exact (Ex.refl _).drew | exact xb7 | exact xb7.alloc _ | exact xb6 | exact Ex.alloc (And.left ‹Ex _ _ ∧ _›) _ | exact (And.left ‹Ex _ _ ∧ _›) | exact Ex.set (Ex.set (And.left ‹Ex _ _ ∧ _›) (by simp <;> omega) _) (by simp <;> omega) _)) (first
      | (refine step_append_ints (by rfl) _ _ _ (by rfl) w5 (And.left ‹Ex _ _ ∧ _›) 3 i0 Try.underlying23 hi hz0 hz1 hz2 (Value.slice (some ⟨_, 0, none⟩) 0 0) 0 [] (by rfl) ?_ pa pc p (by rfl) (P5.out _ (And.left ‹Ex _ _ ∧ _›)) PN.out (by omega) ?_; (focus (refine own_empty ?_ ?_ <;> (first | exact Nat.le_refl _ | omega | (simp only [look] <;> (repeat' split) <;> (first | rfl | (exfalso; omega)))))); intro v6 w6 hown6 T6 U6 xb6; have z6 := xb6.size)
      | (refine step_append_ints (by rfl) _ _ _ (by rfl) w5 (And.left ‹Ex _ _ ∧ _›) 3 i0 Try.underlying23 hi hz0 hz1 hz2 v6 (0 + p.length) ([] ++ p.map (Value.int .i64)) (by rfl) ?_ (some ⟨_, 0, none⟩) 1 [x] (by rfl) (PA_one (fr := (0, 0)) ?_) (Or.inr ⟨_, rfl⟩) (by show 0 + p.length + 1 ≤ 1000000; omega) ?_; (focus (first | exact hown6 | exact World.ownsRow.alloc hown6 _ | exact World.ownsRow.alloc (World.ownsRow.alloc hown6 _) _)); (focus (first | (simp only [look] <;> (repeat' split) <;> (first | rfl | (exfalso; omega))) | (refine Ex.blk (a := w6) ?_ (T6.out _ _ ?_ ?_); (focus (first | exact Ex.refl _ | exact Ex.new _ _ | exact (Ex.new _ _).alloc _)); (focus (simp only [look] <;> (repeat' split) <;> (first | rfl | (exfalso; omega)))); (focus (first | (intro hh; injection hh with hh; omega) | (simp [Value.ownBlock]; done) | (intro hh; simp [Value.ownBlock] at hh; omega)))))); intro v7 w7 hown7 T7 U7 xb7; have z7 := xb7.size; (first | (refine cut_in (A := w7.heap[w5.heap.size]? = some (.cells #[.string ⟨#[]⟩, .slice none 0 0] 25 (0, 0))) ?_ (fun m9 => ?_); (focus (refine U7.out _ _ _ _ ?_ (by decide); (first | (simp only [look] <;> (repeat' split) <;> (first | rfl | (exfalso; omega))) | (refine Ex.blk (a := w6) ?_ (U6.out _ _ _ _ ?_ (by decide)); (focus (first | exact Ex.refl _ | exact Ex.new _ _ | exact (Ex.new _ _).alloc _)); (focus (simp only [look] <;> (repeat' split) <;> (first | rfl | (exfalso; omega)))))); done)); have k0 := two_cell0 m9; have k1 := two_cell1 m9; have k2 := two_free (i := 0) m9; have k3 := two_free (i := 1) m9; have k4 := lt_of_block m9) | (refine cut_in (A := w7.heap[w5.heap.size + 1]? = some (.cells #[.string ⟨#[]⟩, .slice none 0 0] 25 (0, 0))) ?_ (fun m9 => ?_); (focus (refine U7.out _ _ _ _ ?_ (by decide); (first | (simp only [look] <;> (repeat' split) <;> (first | rfl | (exfalso; omega))) | (refine Ex.blk (a := w6) ?_ (U6.out _ _ _ _ ?_ (by decide)); (focus (first | exact Ex.refl _ | exact Ex.new _ _ | exact (Ex.new _ _).alloc _)); (focus (simp only [look] <;> (repeat' split) <;> (first | rfl | (exfalso; omega)))))); done)); have k0 := two_cell0 m9; have k1 := two_cell1 m9; have k2 := two_free (i := 0) m9; have k3 := two_free (i := 1) m9; have k4 := lt_of_block m9) | (refine cut_in (A := w7.heap[w5.heap.size + 2]? = some (.cells #[.string ⟨#[]⟩, .slice none 0 0] 25 (0, 0))) ?_ (fun m9 => ?_); (focus (refine U7.out _ _ _ _ ?_ (by decide); (first | (simp only [look] <;> (repeat' split) <;> (first | rfl | (exfalso; omega))) | (refine Ex.blk (a := w6) ?_ (U6.out _ _ _ _ ?_ (by decide)); (focus (first | exact Ex.refl _ | exact Ex.new _ _ | exact (Ex.new _ _).alloc _)); (focus (simp only [look] <;> (repeat' split) <;> (first | rfl | (exfalso; omega)))))); done)); have k0 := two_cell0 m9; have k1 := two_cell1 m9; have k2 := two_free (i := 0) m9; have k3 := two_free (i := 1) m9; have k4 := lt_of_block m9) | (refine cut_in (A := w7.heap[w6.heap.size]? = some (.cells #[.string ⟨#[]⟩, .slice none 0 0] 25 (0, 0))) ?_ (fun m9 => ?_); (focus (refine U7.out _ _ _ _ ?_ (by decide); (first | (simp only [look] <;> (repeat' split) <;> (first | rfl | (exfalso; omega))) | (refine Ex.blk (a := w6) ?_ (U6.out _ _ _ _ ?_ (by decide)); (focus (first | exact Ex.refl _ | exact Ex.new _ _ | exact (Ex.new _ _).alloc _)); (focus (simp only [look] <;> (repeat' split) <;> (first | rfl | (exfalso; omega)))))); done)); have k0 := two_cell0 m9; have k1 := two_cell1 m9; have k2 := two_free (i := 0) m9; have k3 := two_free (i := 1) m9; have k4 := lt_of_block m9) | (refine cut_in (A := w7.heap[w6.heap.size + 1]? = some (.cells #[.string ⟨#[]⟩, .slice none 0 0] 25 (0, 0))) ?_ (fun m9 => ?_); (focus (refine U7.out _ _ _ _ ?_ (by decide); (first | (simp only [look] <;> (repeat' split) <;> (first | rfl | (exfalso; omega))) | (refine Ex.blk (a := w6) ?_ (U6.out _ _ _ _ ?_ (by decide)); (focus (first | exact Ex.refl _ | exact Ex.new _ _ | exact (Ex.new _ _).alloc _)); (focus (simp only [look] <;> (repeat' split) <;> (first | rfl | (exfalso; omega)))))); done)); have k0 := two_cell0 m9; have k1 := two_cell1 m9; have k2 := two_free (i := 0) m9; have k3 := two_free (i := 1) m9; have k4 := lt_of_block m9) | skip); have O7 : Own w7 w5.heap.size v7 (p ++ [x]) := (by show World.ownsRow _ _ _ _ _ _ _; rw [List.length_append, List.map_append]; have := hown7; rw [Nat.zero_add, List.nil_append] at this; exact this); obtain ⟨la, lc, hv7, hPA7, hlc7, _⟩ := O7.PA; subst hv7)
      | fail)
    all_goals
      have hlc : p.length + 1 ≤ lc := by simpa using hlc7
      clear hown7 O7 hlc7 T7 U7 T6 U6
      go_wp2_with fail
      go_meet
      first
        | exact ⟨ex_set2 xb7 (by omega) _ _, _, la, lc, rfl, two_cell0 (two_set m9), two_cell1 (two_set m9), PA_set2 (PA_lo hPA7 (Nat.zero_le _)) m9, hlc⟩
        | exact ⟨xb7.alloc _, _, la, lc, rfl, two_cell0 (heap_alloc_new w7 _), two_cell1 (heap_alloc_new w7 _), PA_below (PA_lo hPA7 (Nat.zero_le _)) (Ex.new _ _), hlc⟩
  case rest =>
    rename World => w8
    obtain ⟨hx8, pb, la, lc, rfl, y0, y1, hp8, hlc⟩ := hcut
    clear c1 c2 c3 c4
    have X8 : Hid (Ex W1 w8) := X5.out.trans hx8
    obtain ⟨_, c1, c2, c3, c4⟩ := KS.out w8 X8.out
    have P8 : Hid (∀ w', Ex w8 w' → PA w' 0 (p ++ [x]) la) := fun _ h => PA_below hp8 h
    have Y8 : Hid (∀ w', Ex w8 w' → w'.cell? ⟨pb, 0, none⟩ = some (.string s) ∧ w'.cell? ⟨pb, 1, none⟩ = some (.slice la (p.length + 1) lc)) := fun _ h => ⟨h.at y0, h.at y1⟩
    have HX : Hid (x = 0 ∨ x = 1) := hx01
    have IAR : Hid (∀ w', Ex w8 w' → Calls Try.prog 6 #[.agg #[.string s, .slice pa p.length pc], .agg #[.string s, .slice la (p.length + 1) lc]] w' fun e w'' => e = .returned (.bool (lendB s s p (p ++ [x]))) ∧ Ex w' w'') := fun w' h => by
      have := IAP.out w' (p ++ [x]) la lc (by simp; omega) (by simpa using hlc) (P8.out w' h) (X8.out.trans h)
      simpa using this
    clear hx hx2 hx01 hp8 hx8 IAP
    have hLL : (L == L) = true := by cases L <;> rfl
    go_wp2_with fail
    refine (SAA.out w8 X8.out).mono ?_
    rintro e w9 ⟨rfl, hb9⟩
    have X9 : Hid (Ex w8 w9) := hb9
    clear hb9 c1 c2 c3 c4 y0 y1
    obtain ⟨y0, y1⟩ := Y8.out w9 X9.out
    obtain ⟨_, c1, c2, c3, c4⟩ := KS.out w9 (X8.out.trans X9.out)
    cases L with
    | false =>
      cases M with
      | false =>
        go_wp2_with fail
        go_ret
        exact ⟨rfl, X1.out.trans (N1.out.trans (X8.out.trans X9.out))⟩
      | true => exact absurd (HM.out rfl) (by decide)
    | true =>
      by_cases h4 : 4 < p.length + 1
      · have d4 : decide ((4 : Int) < ((p.length + 1 : Nat) : Int)) = true := by simp; omega
        have d4' : decide ((4 : Int) < (p.length : Int) + 1) = true := by simp; omega
        cases M
        all_goals
          go_wp2_with fail
          go_ret
          exact ⟨rfl, X1.out.trans (N1.out.trans (X8.out.trans X9.out))⟩
      · have d4 : decide ((4 : Int) < ((p.length + 1 : Nat) : Int)) = false := by simp; omega
        have d4' : decide ((4 : Int) < (p.length : Int) + 1) = false := by simp; omega
        have HT : lendB s s p (p ++ [x]) = true := HP.out x rfl HX.out (by omega)
        cases M
        all_goals
          go_wp2_with fail
          refine (IAR.out w9 X9.out).mono ?_
          rintro e w10 ⟨rfl, hb10⟩
          rw [HT]
          have X10 : Hid (Ex w8 w10) := X9.out.trans hb10
          clear hb10
          go_wp2_with fail
          go_ret
          exact ⟨rfl, X1.out.trans (N1.out.trans (X8.out.trans X10.out))⟩
end Go.Proofs.Ytdlbfedepekkmaa
