/- Walks: terms that are ok by names. -/
import Derived.Test.YthdihpcpobhadaaDoorTM2

namespace Go.Proofs.YthdihpcpobhadaaDoor

open Go.RowKit Go.Deep

attribute [local go_sem ↓] Go.wp_at_zero Go.wp_at_succ

/-- A term has just what its kind says, its kids and its path aside. -/
def ownB (ns : List ByteArray) (k n : Int) (s : ByteArray) (p : List Int) (l : Nat) : Bool :=
  if k ≠ 1 ∧ n ≠ 0 then false else if k ≠ 2 ∧ s.size ≠ 0 then false else if ¬(k = 7 ∨ k = 8) ∧ p.length ≠ 0 then false
  else if k = 1 then decide (0 ≤ n ∧ n ≤ 9999) && l == 0 else if k = 2 then hasB ns s && l == 0 else if k = 7 then l == 1 else decide (3 ≤ k ∧ k ≤ 8) && l == 2

theorem ownB_n {ns : List ByteArray} {k n : Int} {s : ByteArray} {p : List Int} {l : Nat} (h : k ≠ 1) (hn : n ≠ 0) : ownB ns k n s p l = false := by
  unfold ownB; rw [if_pos ⟨h, hn⟩]
theorem ownB_s {ns : List ByteArray} {k n : Int} {s : ByteArray} {p : List Int} {l : Nat} (h : k ≠ 2) (hs : s.size ≠ 0) : ownB ns k n s p l = false := by
  unfold ownB; split
  · rfl
  · rw [if_pos ⟨h, hs⟩]
theorem ownB_p {ns : List ByteArray} {k n : Int} {s : ByteArray} {p : List Int} {l : Nat} (h : ¬(k = 7 ∨ k = 8)) (hp : p.length ≠ 0) : ownB ns k n s p l = false := by
  unfold ownB; split
  · rfl
  · split
    · rfl
    · rw [if_pos ⟨h, hp⟩]
theorem ownB_1 {ns : List ByteArray} {n : Int} {s : ByteArray} {p : List Int} {l : Nat} (hs : s.size = 0) (hp : p.length = 0) : ownB ns 1 n s p l = (decide (0 ≤ n ∧ n ≤ 9999) && l == 0) := by
  unfold ownB; rw [if_neg (by omega), if_neg (by omega), if_neg (by omega), if_pos rfl]
theorem ownB_2 {ns : List ByteArray} {n : Int} {s : ByteArray} {p : List Int} {l : Nat} (hn : n = 0) (hp : p.length = 0) : ownB ns 2 n s p l = (hasB ns s && l == 0) := by
  unfold ownB; rw [if_neg (by omega), if_neg (by omega), if_neg (by omega), if_neg (by omega), if_pos rfl]
theorem ownB_7 {ns : List ByteArray} {n : Int} {s : ByteArray} {p : List Int} {l : Nat} (hn : n = 0) (hs : s.size = 0) : ownB ns 7 n s p l = (l == 1) := by
  unfold ownB; rw [if_neg (by omega), if_neg (by omega), if_neg (by omega), if_neg (by omega), if_neg (by omega), if_pos rfl]
theorem ownB_8 {ns : List ByteArray} {n : Int} {s : ByteArray} {p : List Int} {l : Nat} (hn : n = 0) (hs : s.size = 0) : ownB ns 8 n s p l = (l == 2) := by
  unfold ownB; rw [if_neg (by omega), if_neg (by omega), if_neg (by omega), if_neg (by omega), if_neg (by omega), if_neg (by omega)]; rfl
theorem ownB_o {ns : List ByteArray} {k n : Int} {s : ByteArray} {p : List Int} {l : Nat} (h1 : ¬ k = 1) (h2 : ¬ k = 2) (h7 : ¬ k = 7) (hn : n = 0) (hs : s.size = 0) (hp : p.length = 0) : ownB ns k n s p l = (decide (3 ≤ k ∧ k ≤ 8) && l == 2) := by
  unfold ownB; rw [if_neg (by omega), if_neg (by omega), if_neg (by omega), if_neg h1, if_neg h2, if_neg h7]
theorem size_toList (s : ByteArray) : s.toList.length = s.size := by rw [Go.ByteArray.toList_eq]; rfl
theorem empty_size {s : ByteArray} (h : s.size = 0) : s.toList.isEmpty = true := by
  rw [List.isEmpty_iff, ← List.length_eq_zero_iff, size_toList]; exact h
theorem full_size {s : ByteArray} (h : s.size ≠ 0) : s.toList.isEmpty = false := by
  cases hx : s.toList.isEmpty with
  | false => rfl
  | true => rw [List.isEmpty_iff, ← List.length_eq_zero_iff, size_toList] at hx; exact absurd hx h

/-- Places 0 and 1 alone. -/
def pathB (p : List Int) : Bool := p.all fun x => x == 0 || x == 1

/-- A term is ok by names, at most so deep. -/
def termB (ns : List ByteArray) : Nat → Int → Int → ByteArray → List Int → TM → Bool
  | 0, _, _, _, _, _ => false
  | d + 1, k, n, s, p, f => (decide (tlen f ≤ 2) && decide (p.length ≤ 4)) && ((List.range (tlen f)).all (fun i => termB ns d (tkind f i) (tnum f i) (tname f i) (tpath f i) (tkid f i)) && (pathB p && ownB ns k n s p (tlen f)))

theorem pathB_no {p : List Int} {i : Nat} (h : i < p.length) (h0 : ¬ (0 ≤ p.getD i 0 ∧ p.getD i 0 ≤ 1)) : pathB p = false := by
  cases hn : pathB p with
  | false => rfl
  | true =>
    simp only [pathB, List.all_eq_true] at hn
    have := hn (p.getD i 0) (by simp [List.getD, h])
    simp only [Bool.or_eq_true, beq_iff_eq] at this
    omega
theorem pathB_yes {p : List Int} (ha : ∀ i, i < p.length → 0 ≤ p.getD i 0 ∧ p.getD i 0 ≤ 1) : pathB p = true := by
  simp only [pathB, List.all_eq_true]
  intro x hx
  obtain ⟨i, hi, rfl⟩ := List.getElem_of_mem hx
  have := ha i hi
  simp only [List.getD, List.getElem?_eq_getElem hi, Option.getD_some] at this
  simp only [Bool.or_eq_true, beq_iff_eq]
  omega

def kidB (ns : List ByteArray) (d : Nat) (f : TM) (i : Nat) : Bool := termB ns d (tkind f i) (tnum f i) (tname f i) (tpath f i) (tkid f i)

theorem termB_kid {ns : List ByteArray} {d : Nat} {k n : Int} {s : ByteArray} {p : List Int} {f : TM} {i : Nat} (h : i < tlen f) (hb : kidB ns d f i = false) : termB ns (d + 1) k n s p f = false := by
  have : (List.range (tlen f)).all (fun i => termB ns d (tkind f i) (tnum f i) (tname f i) (tpath f i) (tkid f i)) = false := by
    rw [List.all_eq_false]
    exact ⟨i, List.mem_range.2 h, by rw [show termB ns d (tkind f i) (tnum f i) (tname f i) (tpath f i) (tkid f i) = false from hb]; simp⟩
  simp [termB, this]
theorem termB_len {ns : List ByteArray} {d : Nat} {k n : Int} {s : ByteArray} {p : List Int} {f : TM} (h : 2 < tlen f) : termB ns (d + 1) k n s p f = false := by
  simp [termB, show ¬ tlen f ≤ 2 by omega]
theorem termB_plen {ns : List ByteArray} {d : Nat} {k n : Int} {s : ByteArray} {p : List Int} {f : TM} (h : 4 < p.length) : termB ns (d + 1) k n s p f = false := by
  simp [termB, show ¬ p.length ≤ 4 by omega]
theorem termB_path {ns : List ByteArray} {d : Nat} {k n : Int} {s : ByteArray} {p : List Int} {f : TM} (h : pathB p = false) : termB ns (d + 1) k n s p f = false := by
  simp [termB, h]
theorem termB_own {ns : List ByteArray} {d : Nat} {k n : Int} {s : ByteArray} {p : List Int} {f : TM} (h1 : tlen f ≤ 2) (h2 : p.length ≤ 4) (h3 : ∀ i, i < tlen f → kidB ns d f i = true) (h4 : pathB p = true) : termB ns (d + 1) k n s p f = ownB ns k n s p (tlen f) := by
  have : (List.range (tlen f)).all (fun i => termB ns d (tkind f i) (tnum f i) (tname f i) (tpath f i) (tkid f i)) = true := by
    rw [List.all_eq_true]
    intro i hi
    exact h3 i (List.mem_range.1 hi)
  simp only [termB, this, h4, h1, h2, decide_true, Bool.true_and]

set_option maxRecDepth 100000 in
set_option maxHeartbeats 4000000 in
theorem l12Term_any (ns : List ByteArray) (na : Option Addr) (nc : Nat) (hns : ns.length ≤ 1000000000) : ∀ (d : Nat) (k n : Int) (s : ByteArray) (p : List Int) (pa : Option Addr) (pc : Nat) (f : TM) (a : Option Addr) (c : Nat) (w : World), d ≤ 1000 → XA w 0 ns na → PA w 0 p pa → MA w 0 f a →
    Calls Tryd.prog 34 #[.slice na ns.length nc, .agg #[.int .i64 k, .int .i64 n, .string s, .slice pa p.length pc, .slice a (tlen f) c], .int .i64 d] w fun e w' => e = .returned (.bool (termB ns d k n s p f)) ∧ Ex w w' := by
  intro d
  induction d with
  | zero =>
    intro k n s p pa pc f a c w _ _ _ _
    go_enter Tryd.func34, Tryd.ntmps34
    go_wp2_with fail
    go_ret
    exact ⟨ret_b rfl, Ex.new _ _⟩
  | succ d ih =>
    intro k n s p pa pc f a c w hd hX hP hM
    have X : Hid (∀ w', Ex w w' → XA w' 0 ns na) := fun _ h => XA_below hX h
    have P : Hid (∀ w', Ex w w' → PA w' 0 p pa) := fun _ h => PA_below hP h
    have M : Hid (∀ w', Ex w w' → MA w' 0 f a) := fun _ h => MA_below hM h
    have I : Hid _ := ih
    have N : Hid (Ex w (w.alloc (.cells #[.int .i64 k, .int .i64 n, .string s, .slice pa p.length pc, .slice a (tlen f) c] 28))) := Ex.new _ _
    have C : Hid (∀ w', Ex (w.alloc (.cells #[.int .i64 k, .int .i64 n, .string s, .slice pa p.length pc, .slice a (tlen f) c] 28)) w' → w'.cell? ⟨w.heap.size, 0, none⟩ = some (.int .i64 k) ∧ w'.cell? ⟨w.heap.size, 1, none⟩ = some (.int .i64 n) ∧ w'.cell? ⟨w.heap.size, 2, none⟩ = some (.string s) ∧ w'.cell? ⟨w.heap.size, 3, none⟩ = some (.slice pa p.length pc) ∧ w'.cell? ⟨w.heap.size, 4, none⟩ = some (.slice a (tlen f) c)) := fun w' h => ⟨h.at (by simp), h.at (by simp), h.at (by simp), h.at (by simp), h.at (by simp)⟩
    have d0 : decide (((d + 1 : Nat) : Int) < 1) = false := by simp; omega
    clear hX hP hM ih
    by_cases h2 : 2 < tlen f
    · have HR : Hid (termB ns (d + 1) k n s p f = false) := termB_len h2
      have d1 : decide ((2 : Int) < (tlen f : Int)) = true := by simp; omega
      go_enter Tryd.func34, Tryd.ntmps34
      go_wp2_with fail
      go_ret
      exact ⟨ret_b HR.out.symm, N.out⟩
    have d1 : decide ((2 : Int) < (tlen f : Int)) = false := by simp; omega
    by_cases h4 : 4 < p.length
    · have HR : Hid (termB ns (d + 1) k n s p f = false) := termB_plen h4
      have d2 : decide ((4 : Int) < (p.length : Int)) = true := by simp; omega
      go_enter Tryd.func34, Tryd.ntmps34
      go_wp2_with fail
      go_ret
      exact ⟨ret_b HR.out.symm, N.out⟩
    have d2 : decide ((4 : Int) < (p.length : Int)) = false := by simp; omega
    obtain ⟨D, hD⟩ : ∃ D : Int, D = ((d + 1 : Nat) : Int) := ⟨_, rfl⟩
    have HD : Hid (D = ((d + 1 : Nat) : Int)) := hD
    rw [← hD] at d0 ⊢
    have d3 : D - 1 = (d : Int) := by omega
    have d4 : IntKind.i64.wrap (D - 1) = (d : Int) := by rw [d3]; exact IntWalk.i64_in _ (by omega)
    clear hD
    go_enter Tryd.func34, Tryd.ntmps34
    go_wp2_with fail
    go_loopw [7] (fun i wr => ∃ (j : Nat), j ≤ tlen f ∧ i = .int .i64 j ∧ (∀ l, l < j → kidB ns d f l = true) ∧ Ex (w.alloc (.cells #[.int .i64 k, .int .i64 n, .string s, .slice pa p.length pc, .slice a (tlen f) c] 28)) wr) (fun i _ => tlen f - (intOf i).toNat)
    case atStart => exact ⟨0, by omega, rfl, fun j hj => by omega, Ex.refl _⟩
    case round =>
      obtain ⟨j, hj, rfl, hall, hx⟩ := hrel
      have A : Hid (∀ l, l < j → kidB ns d f l = true) := hall
      have E : Hid (Ex (w.alloc (.cells #[.int .i64 k, .int .i64 n, .string s, .slice pa p.length pc, .slice a (tlen f) c] 28)) wr) := hx
      obtain ⟨c0, c1, c2, c3, c4⟩ := C.out wr hx
      clear hall hx
      by_cases hlt : j < tlen f
      · obtain ⟨b, o, rfl, _, hbs, hk⟩ := MA_at (M.out wr (N.out.trans E.out)) (by omega)
        obtain ⟨e0, e1, e2, ⟨pa', pc', e3, hp'⟩, a', c', e4, hm'⟩ := hk j hlt
        have HI : Hid (∀ w', Ex wr w' → Calls Tryd.prog 34 #[.slice na ns.length nc, .agg #[.int .i64 (tkind f j), .int .i64 (tnum f j), .string (tname f j), .slice pa' (tpath f j).length pc', .slice a' (tlen (tkid f j)) c'], .int .i64 d] w' fun e w'' => e = .returned (.bool (kidB ns d f j)) ∧ Ex w' w'') :=
          fun w' h => I.out _ _ _ _ _ _ _ _ _ w' (by omega) (X.out w' (N.out.trans (E.out.trans h))) (PA_below (PS_pa.1 hp'.1) h) (MA_below hm' h)
        have U : Hid (kidB ns d f j = true → ∀ l, l < j + 1 → kidB ns d f l = true) := fun h => upto_succ A.out h
        have V : Hid (kidB ns d f j = false → termB ns (d + 1) k n s p f = false) := termB_kid hlt
        clear hk hp' hm'
        go_wp2_with fail
        refine (HI.out _ (Ex.refl _)).mono ?_
        rintro e w1 ⟨rfl, hb1⟩
        cases hkb : kidB ns d f j with
        | false =>
          have HR : Hid (termB ns (d + 1) k n s p f = false) := V.out hkb
          go_wp2_with fail
          go_ret
          exact ⟨ret_b HR.out.symm, N.out.trans (E.out.trans hb1)⟩
        | true =>
          have HU : Hid _ := U.out hkb
          go_wp2_with fail
          go_roundw
          case rel => exact ⟨j + 1, by omega, by go_num, HU.out, E.out.trans hb1⟩
          case measure => simp [intOf]; omega
      · have KB : Hid (∀ l, l < tlen f → kidB ns d f l = true) := fun l hl => A.out l (by omega)
        clear A
        go_wp2_with fail
        go_loopw [8] (fun i wr => ∃ (j : Nat), j ≤ p.length ∧ i = .int .i64 j ∧ (∀ l, l < j → 0 ≤ p.getD l 0 ∧ p.getD l 0 ≤ 1) ∧ Ex (w.alloc (.cells #[.int .i64 k, .int .i64 n, .string s, .slice pa p.length pc, .slice a (tlen f) c] 28)) wr) (fun i _ => p.length - (intOf i).toNat)
        case atStart => exact ⟨0, by omega, rfl, fun j hj => by omega, E.out⟩
        case round =>
          obtain ⟨j2, hj2, rfl, hall, hx⟩ := hrel
          have A : Hid (∀ l, l < j2 → 0 ≤ p.getD l 0 ∧ p.getD l 0 ≤ 1) := hall
          clear E c0 c1 c2 c3 c4
          have E : Hid (Ex (w.alloc (.cells #[.int .i64 k, .int .i64 n, .string s, .slice pa p.length pc, .slice a (tlen f) c] 28)) wr) := hx
          obtain ⟨c0, c1, c2, c3, c4⟩ := C.out wr hx
          clear hall hx
          by_cases hlt2 : j2 < p.length
          · obtain ⟨b, o, rfl, hbs, _, hc⟩ := PA_at (P.out wr (N.out.trans E.out)) (by omega)
            have ck := hc j2 hlt2
            have U : Hid (decide (0 ≤ p.getD j2 0 ∧ p.getD j2 0 ≤ 1) = true → ∀ l, l < j2 + 1 → 0 ≤ p.getD l 0 ∧ p.getD l 0 ≤ 1) := fun h => upto_succ A.out (of_decide_eq_true h)
            have V : Hid (decide (0 ≤ p.getD j2 0 ∧ p.getD j2 0 ≤ 1) = false → termB ns (d + 1) k n s p f = false) := fun h => termB_path (pathB_no hlt2 (of_decide_eq_false h))
            obtain ⟨x, hx⟩ : ∃ x, p.getD j2 0 = x := ⟨_, rfl⟩
            rw [hx] at ck U V
            clear hx hc
            go_wp2_with fail
            refine (l6In_any x 0 1 wr).mono ?_
            rintro e w2 ⟨rfl, hb2⟩
            cases hd : decide (0 ≤ x ∧ x ≤ 1) with
            | false =>
              have HR : Hid (termB ns (d + 1) k n s p f = false) := V.out hd
              go_wp2_with fail
              go_ret
              exact ⟨ret_b HR.out.symm, N.out.trans (E.out.trans hb2)⟩
            | true =>
              have HU : Hid _ := U.out hd
              clear hd U V
              go_wp2_with fail
              go_roundw
              case rel => exact ⟨j2 + 1, by omega, by go_num, HU.out, E.out.trans hb2⟩
              case measure => simp [intOf]; omega
          · have O : Hid (termB ns (d + 1) k n s p f = ownB ns k n s p (tlen f)) := termB_own (by omega) (by omega) KB.out (pathB_yes fun l hl => A.out l (by omega))
            have F : Hid (Ex w wr) := N.out.trans E.out
            clear A KB I M P
            by_cases k1 : k = 1
            · subst k1
              by_cases hs : s.size ≠ 0
              · have s1 : s.toList.isEmpty = false := full_size hs
                have HR : Hid (ownB ns 1 n s p (tlen f) = false) := ownB_s (by decide) hs
                go_wp2_with fail
                go_ret
                exact ⟨ret_b (O.out.trans HR.out).symm, F.out⟩
              have hs0 : s.size = 0 := by omega
              have s1 : s.toList.isEmpty = true := empty_size hs0
              by_cases hp : p.length ≠ 0
              · have p1 : decide ((0 : Int) < (p.length : Int)) = true := decide_eq_true (by omega)
                have HR : Hid (ownB ns 1 n s p (tlen f) = false) := ownB_p (by decide) hp
                go_wp2_with fail
                go_ret
                exact ⟨ret_b (O.out.trans HR.out).symm, F.out⟩
              have hp0 : p.length = 0 := by omega
              have p1 : decide ((0 : Int) < (p.length : Int)) = false := decide_eq_false (by omega)
              go_wp2_with fail
              refine (l6In_any n 0 9999 _).mono ?_
              rintro e w2 ⟨rfl, hb2⟩
              have c9 := (C.out w2 (E.out.trans hb2)).2.2.2.2
              cases hd : decide (0 ≤ n ∧ n ≤ 9999) with
              | false =>
                have HR : Hid (ownB ns 1 n s p (tlen f) = false) := by show _ = _; rw [ownB_1 hs0 hp0, hd]; rfl
                go_wp2_with fail
                go_ret
                exact ⟨ret_b (O.out.trans HR.out).symm, F.out.trans hb2⟩
              | true =>
                by_cases hl : tlen f = 0
                · have l1 : ((tlen f : Int) == 0) = true := by simp; omega
                  have l0 : (tlen f == 0) = true := by simp [hl]
                  have HR : Hid (ownB ns 1 n s p (tlen f) = true) := by show _ = _; rw [ownB_1 hs0 hp0, hd, l0]; rfl
                  go_wp2_with fail
                  go_ret
                  exact ⟨ret_b (O.out.trans HR.out).symm, F.out.trans hb2⟩
                · have l1 : ((tlen f : Int) == 0) = false := by simp; omega
                  have l0 : (tlen f == 0) = false := by simp [hl]
                  have HR : Hid (ownB ns 1 n s p (tlen f) = false) := by show _ = _; rw [ownB_1 hs0 hp0, hd, l0]; rfl
                  go_wp2_with fail
                  go_ret
                  exact ⟨ret_b (O.out.trans HR.out).symm, F.out.trans hb2⟩
            by_cases k2 : k = 2
            · subst k2
              by_cases hn : n ≠ 0
              · have n1 : (n != 0) = true := by simp [hn]
                have HR : Hid (ownB ns 2 n s p (tlen f) = false) := ownB_n (by decide) hn
                go_wp2_with fail
                go_ret
                exact ⟨ret_b (O.out.trans HR.out).symm, F.out⟩
              have hn0 : n = 0 := by omega
              have n1 : (n != 0) = false := by simp [hn0]
              by_cases hp : p.length ≠ 0
              · have p1 : decide ((0 : Int) < (p.length : Int)) = true := decide_eq_true (by omega)
                have HR : Hid (ownB ns 2 n s p (tlen f) = false) := ownB_p (by decide) hp
                go_wp2_with fail
                go_ret
                exact ⟨ret_b (O.out.trans HR.out).symm, F.out⟩
              have hp0 : p.length = 0 := by omega
              have p1 : decide ((0 : Int) < (p.length : Int)) = false := decide_eq_false (by omega)
              go_wp2_with fail
              refine (l12Has_any ns na nc s _ hns (X.out _ F.out)).mono ?_
              rintro e w2 ⟨rfl, hb2⟩
              have c9 := (C.out w2 (E.out.trans hb2)).2.2.2.2
              cases hd : hasB ns s with
              | false =>
                have HR : Hid (ownB ns 2 n s p (tlen f) = false) := by show _ = _; rw [ownB_2 hn0 hp0, hd]; rfl
                go_wp2_with fail
                go_ret
                exact ⟨ret_b (O.out.trans HR.out).symm, F.out.trans hb2⟩
              | true =>
                by_cases hl : tlen f = 0
                · have l1 : ((tlen f : Int) == 0) = true := by simp; omega
                  have l0 : (tlen f == 0) = true := by simp [hl]
                  have HR : Hid (ownB ns 2 n s p (tlen f) = true) := by show _ = _; rw [ownB_2 hn0 hp0, hd, l0]; rfl
                  go_wp2_with fail
                  go_ret
                  exact ⟨ret_b (O.out.trans HR.out).symm, F.out.trans hb2⟩
                · have l1 : ((tlen f : Int) == 0) = false := by simp; omega
                  have l0 : (tlen f == 0) = false := by simp [hl]
                  have HR : Hid (ownB ns 2 n s p (tlen f) = false) := by show _ = _; rw [ownB_2 hn0 hp0, hd, l0]; rfl
                  go_wp2_with fail
                  go_ret
                  exact ⟨ret_b (O.out.trans HR.out).symm, F.out.trans hb2⟩
            by_cases k7 : k = 7
            · subst k7
              by_cases hn : n ≠ 0
              · have n1 : (n != 0) = true := by simp [hn]
                have HR : Hid (ownB ns 7 n s p (tlen f) = false) := ownB_n (by decide) hn
                go_wp2_with fail
                go_ret
                exact ⟨ret_b (O.out.trans HR.out).symm, F.out⟩
              have hn0 : n = 0 := by omega
              have n1 : (n != 0) = false := by simp [hn0]
              by_cases hs : s.size ≠ 0
              · have s1 : s.toList.isEmpty = false := full_size hs
                have HR : Hid (ownB ns 7 n s p (tlen f) = false) := ownB_s (by decide) hs
                go_wp2_with fail
                go_ret
                exact ⟨ret_b (O.out.trans HR.out).symm, F.out⟩
              have hs0 : s.size = 0 := by omega
              have s1 : s.toList.isEmpty = true := empty_size hs0
              by_cases hl : tlen f = 1
              · have l1 : ((tlen f : Int) == 1) = true := by simp; omega
                have l0 : (tlen f == 1) = true := by simp [hl]
                have HR : Hid (ownB ns 7 n s p (tlen f) = true) := by show _ = _; rw [ownB_7 hn0 hs0, l0]
                go_wp2_with fail
                go_ret
                exact ⟨ret_b (O.out.trans HR.out).symm, F.out⟩
              · have l1 : ((tlen f : Int) == 1) = false := by simp; omega
                have l0 : (tlen f == 1) = false := by simp [hl]
                have HR : Hid (ownB ns 7 n s p (tlen f) = false) := by show _ = _; rw [ownB_7 hn0 hs0, l0]
                go_wp2_with fail
                go_ret
                exact ⟨ret_b (O.out.trans HR.out).symm, F.out⟩
            by_cases k8 : k = 8
            · subst k8
              by_cases hn : n ≠ 0
              · have n1 : (n != 0) = true := by simp [hn]
                have HR : Hid (ownB ns 8 n s p (tlen f) = false) := ownB_n (by decide) hn
                go_wp2_with fail
                go_ret
                exact ⟨ret_b (O.out.trans HR.out).symm, F.out⟩
              have hn0 : n = 0 := by omega
              have n1 : (n != 0) = false := by simp [hn0]
              by_cases hs : s.size ≠ 0
              · have s1 : s.toList.isEmpty = false := full_size hs
                have HR : Hid (ownB ns 8 n s p (tlen f) = false) := ownB_s (by decide) hs
                go_wp2_with fail
                go_ret
                exact ⟨ret_b (O.out.trans HR.out).symm, F.out⟩
              have hs0 : s.size = 0 := by omega
              have s1 : s.toList.isEmpty = true := empty_size hs0
              go_wp2_with fail
              refine (l6In_any 8 3 8 _).mono ?_
              rintro e w2 ⟨rfl, hb2⟩
              have c9 := (C.out w2 (E.out.trans hb2)).2.2.2.2
              by_cases hl : tlen f = 2
              · have l1 : ((tlen f : Int) == 2) = true := by simp; omega
                have l0 : (tlen f == 2) = true := by simp [hl]
                have HR : Hid (ownB ns 8 n s p (tlen f) = true) := by show _ = _; rw [ownB_8 hn0 hs0, l0]
                go_wp2_with fail
                go_ret
                exact ⟨ret_b (O.out.trans HR.out).symm, F.out.trans hb2⟩
              · have l1 : ((tlen f : Int) == 2) = false := by simp; omega
                have l0 : (tlen f == 2) = false := by simp [hl]
                have HR : Hid (ownB ns 8 n s p (tlen f) = false) := by show _ = _; rw [ownB_8 hn0 hs0, l0]
                go_wp2_with fail
                go_ret
                exact ⟨ret_b (O.out.trans HR.out).symm, F.out.trans hb2⟩
            have q1 : (k == 1) = false := by simp [k1]
            have q2 : (k == 2) = false := by simp [k2]
            have q7 : (k == 7) = false := by simp [k7]
            have q8 : (k == 8) = false := by simp [k8]
            have r1 : (k != 1) = true := by simp [k1]
            have r2 : (k != 2) = true := by simp [k2]
            by_cases hn : n ≠ 0
            · have n1 : (n != 0) = true := by simp [hn]
              have HR : Hid (ownB ns k n s p (tlen f) = false) := ownB_n k1 hn
              go_wp2_with fail
              go_ret
              exact ⟨ret_b (O.out.trans HR.out).symm, F.out⟩
            have hn0 : n = 0 := by omega
            have n1 : (n != 0) = false := by simp [hn0]
            by_cases hs : s.size ≠ 0
            · have s1 : s.toList.isEmpty = false := full_size hs
              have HR : Hid (ownB ns k n s p (tlen f) = false) := ownB_s k2 hs
              go_wp2_with fail
              go_ret
              exact ⟨ret_b (O.out.trans HR.out).symm, F.out⟩
            have hs0 : s.size = 0 := by omega
            have s1 : s.toList.isEmpty = true := empty_size hs0
            by_cases hp : p.length ≠ 0
            · have p1 : decide ((0 : Int) < (p.length : Int)) = true := decide_eq_true (by omega)
              have HR : Hid (ownB ns k n s p (tlen f) = false) := ownB_p (by omega) hp
              go_wp2_with fail
              go_ret
              exact ⟨ret_b (O.out.trans HR.out).symm, F.out⟩
            have hp0 : p.length = 0 := by omega
            have p1 : decide ((0 : Int) < (p.length : Int)) = false := decide_eq_false (by omega)
            go_wp2_with fail
            refine (l6In_any k 3 8 _).mono ?_
            rintro e w2 ⟨rfl, hb2⟩
            have c9 := (C.out w2 (E.out.trans hb2)).2.2.2.2
            cases hd : decide (3 ≤ k ∧ k ≤ 8) with
            | false =>
              have HR : Hid (ownB ns k n s p (tlen f) = false) := by show _ = _; rw [ownB_o k1 k2 k7 hn0 hs0 hp0, hd]; rfl
              go_wp2_with fail
              go_ret
              exact ⟨ret_b (O.out.trans HR.out).symm, F.out.trans hb2⟩
            | true =>
              by_cases hl : tlen f = 2
              · have l1 : ((tlen f : Int) == 2) = true := by simp; omega
                have l0 : (tlen f == 2) = true := by simp [hl]
                have HR : Hid (ownB ns k n s p (tlen f) = true) := by show _ = _; rw [ownB_o k1 k2 k7 hn0 hs0 hp0, hd, l0]; rfl
                go_wp2_with fail
                go_ret
                exact ⟨ret_b (O.out.trans HR.out).symm, F.out.trans hb2⟩
              · have l1 : ((tlen f : Int) == 2) = false := by simp; omega
                have l0 : (tlen f == 2) = false := by simp [hl]
                have HR : Hid (ownB ns k n s p (tlen f) = false) := by show _ = _; rw [ownB_o k1 k2 k7 hn0 hs0 hp0, hd, l0]; rfl
                go_wp2_with fail
                go_ret
                exact ⟨ret_b (O.out.trans HR.out).symm, F.out.trans hb2⟩

end Go.Proofs.YthdihpcpobhadaaDoor
