/- Walks: terms that are ok by names. Bindings, bodies and functions without places as they lie in memory. Walks: terms of a list, and how much a function is given and says. Lists put behind what is owned; bindings and bodies that are ok, without the program. -/
import Derived.Test.YtgpdnoghlommeaaGreatDoorGTM2
import Derived.Laws.AppendOwn
import Derived.Laws.OwnMore
namespace Go.Proofs.YtgpdnoghlommeaaGreatDoor

open Go.RowKit Go.Deep

attribute [local go_sem ↓] Go.wp_at_zero Go.wp_at_succ

/-- A term has just what its kind says, its kids and its path aside. -/
def ownB (ns : List ByteArray) (k n : Int) (s : ByteArray) (p : List Int) (l : Nat) : Bool :=
  if k ≠ 1 ∧ n ≠ 0 then false else if k ≠ 2 ∧ s.size ≠ 0 then false else if ¬(k = 7 ∨ k = 8) ∧ p.length ≠ 0 then false
  else if k = 1 then decide (0 ≤ n ∧ n ≤ 9999) && l == 0 else if k = 2 then hasB ns s && l == 0 else if k = 7 then l == 1 else decide (3 ≤ k ∧ k ≤ 8) && l == 2

theorem ownB_n {ns : List ByteArray} {k n : Int} {s : ByteArray} {p : List Int} {l : Nat} (h : k ≠ 1) (hn : n ≠ 0) : ownB ns k n s p l = false := by
  unfold ownB; rw [if_pos ⟨h, hn⟩]
theorem ownB_s {ns : List ByteArray} {k n : Int} {s : ByteArray} {p : List Int} {l : Nat} (h : k ≠ 2) (hs : s.size ≠ 0) : ownB ns k n s p l = false := by
  unfold ownB; split
  · rfl
  · rw [if_pos ⟨h, hs⟩]
theorem ownB_p {ns : List ByteArray} {k n : Int} {s : ByteArray} {p : List Int} {l : Nat} (h : ¬(k = 7 ∨ k = 8)) (hp : p.length ≠ 0) : ownB ns k n s p l = false := by
  unfold ownB; split
  · rfl
  · split
    · rfl
    · rw [if_pos ⟨h, hp⟩]
theorem ownB_1 {ns : List ByteArray} {n : Int} {s : ByteArray} {p : List Int} {l : Nat} (hs : s.size = 0) (hp : p.length = 0) : ownB ns 1 n s p l = (decide (0 ≤ n ∧ n ≤ 9999) && l == 0) := by
  unfold ownB; rw [if_neg (by omega), if_neg (by omega), if_neg (by omega), if_pos rfl]
theorem ownB_2 {ns : List ByteArray} {n : Int} {s : ByteArray} {p : List Int} {l : Nat} (hn : n = 0) (hp : p.length = 0) : ownB ns 2 n s p l = (hasB ns s && l == 0) := by
  unfold ownB; rw [if_neg (by omega), if_neg (by omega), if_neg (by omega), if_neg (by omega), if_pos rfl]
theorem ownB_7 {ns : List ByteArray} {n : Int} {s : ByteArray} {p : List Int} {l : Nat} (hn : n = 0) (hs : s.size = 0) : ownB ns 7 n s p l = (l == 1) := by
  unfold ownB; rw [if_neg (by omega), if_neg (by omega), if_neg (by omega), if_neg (by omega), if_neg (by omega), if_pos rfl]
theorem ownB_8 {ns : List ByteArray} {n : Int} {s : ByteArray} {p : List Int} {l : Nat} (hn : n = 0) (hs : s.size = 0) : ownB ns 8 n s p l = (l == 2) := by
  unfold ownB; rw [if_neg (by omega), if_neg (by omega), if_neg (by omega), if_neg (by omega), if_neg (by omega), if_neg (by omega)]; rfl
theorem ownB_o {ns : List ByteArray} {k n : Int} {s : ByteArray} {p : List Int} {l : Nat} (h1 : ¬ k = 1) (h2 : ¬ k = 2) (h7 : ¬ k = 7) (hn : n = 0) (hs : s.size = 0) (hp : p.length = 0) : ownB ns k n s p l = (decide (3 ≤ k ∧ k ≤ 8) && l == 2) := by
  unfold ownB; rw [if_neg (by omega), if_neg (by omega), if_neg (by omega), if_neg h1, if_neg h2, if_neg h7]
theorem size_toList (s : ByteArray) : s.toList.length = s.size := by rw [Go.ByteArray.toList_eq]; rfl
theorem empty_size {s : ByteArray} (h : s.size = 0) : s.toList.isEmpty = true := by
  rw [List.isEmpty_iff, ← List.length_eq_zero_iff, size_toList]; exact h
theorem full_size {s : ByteArray} (h : s.size ≠ 0) : s.toList.isEmpty = false := by
  cases hx : s.toList.isEmpty with
  | false => rfl
  | true => rw [List.isEmpty_iff, ← List.length_eq_zero_iff, size_toList] at hx; exact absurd hx h

/-- Places 0 and 1 alone. -/
def pathB (p : List Int) : Bool := p.all fun x => x == 0 || x == 1

/-- A term is ok by names, at most so deep. -/
def termB (ns : List ByteArray) : Nat → Int → Int → ByteArray → List Int → TM → Bool
  | 0, _, _, _, _, _ => false
  | d + 1, k, n, s, p, f => (decide (tlen f ≤ 2) && decide (p.length ≤ 4)) && ((List.range (tlen f)).all (fun i => termB ns d (tkind f i) (tnum f i) (tname f i) (tpath f i) (tkid f i)) && (pathB p && ownB ns k n s p (tlen f)))

theorem pathB_no {p : List Int} {i : Nat} (h : i < p.length) (h0 : ¬ (0 ≤ p.getD i 0 ∧ p.getD i 0 ≤ 1)) : pathB p = false := by
  cases hn : pathB p with
  | false => rfl
  | true =>
    simp only [pathB, List.all_eq_true] at hn
    have := hn (p.getD i 0) (by simp [List.getD, h])
    simp only [Bool.or_eq_true, beq_iff_eq] at this
    omega
theorem pathB_yes {p : List Int} (ha : ∀ i, i < p.length → 0 ≤ p.getD i 0 ∧ p.getD i 0 ≤ 1) : pathB p = true := by
  simp only [pathB, List.all_eq_true]
  intro x hx
  obtain ⟨i, hi, rfl⟩ := List.getElem_of_mem hx
  have := ha i hi
  simp only [List.getD, List.getElem?_eq_getElem hi, Option.getD_some] at this
  simp only [Bool.or_eq_true, beq_iff_eq]
  omega

def kidB (ns : List ByteArray) (d : Nat) (f : TM) (i : Nat) : Bool := termB ns d (tkind f i) (tnum f i) (tname f i) (tpath f i) (tkid f i)

theorem termB_kid {ns : List ByteArray} {d : Nat} {k n : Int} {s : ByteArray} {p : List Int} {f : TM} {i : Nat} (h : i < tlen f) (hb : kidB ns d f i = false) : termB ns (d + 1) k n s p f = false := by
  have : (List.range (tlen f)).all (fun i => termB ns d (tkind f i) (tnum f i) (tname f i) (tpath f i) (tkid f i)) = false := by
    rw [List.all_eq_false]
    exact ⟨i, List.mem_range.2 h, by rw [show termB ns d (tkind f i) (tnum f i) (tname f i) (tpath f i) (tkid f i) = false from hb]; simp⟩
  simp [termB, this]
theorem termB_len {ns : List ByteArray} {d : Nat} {k n : Int} {s : ByteArray} {p : List Int} {f : TM} (h : 2 < tlen f) : termB ns (d + 1) k n s p f = false := by
  simp [termB, show ¬ tlen f ≤ 2 by omega]
theorem termB_plen {ns : List ByteArray} {d : Nat} {k n : Int} {s : ByteArray} {p : List Int} {f : TM} (h : 4 < p.length) : termB ns (d + 1) k n s p f = false := by
  simp [termB, show ¬ p.length ≤ 4 by omega]
theorem termB_path {ns : List ByteArray} {d : Nat} {k n : Int} {s : ByteArray} {p : List Int} {f : TM} (h : pathB p = false) : termB ns (d + 1) k n s p f = false := by
  simp [termB, h]
theorem termB_own {ns : List ByteArray} {d : Nat} {k n : Int} {s : ByteArray} {p : List Int} {f : TM} (h1 : tlen f ≤ 2) (h2 : p.length ≤ 4) (h3 : ∀ i, i < tlen f → kidB ns d f i = true) (h4 : pathB p = true) : termB ns (d + 1) k n s p f = ownB ns k n s p (tlen f) := by
  have : (List.range (tlen f)).all (fun i => termB ns d (tkind f i) (tnum f i) (tname f i) (tpath f i) (tkid f i)) = true := by
    rw [List.all_eq_true]
    intro i hi
    exact h3 i (List.mem_range.1 hi)
  simp only [termB, this, h4, h1, h2, decide_true, Bool.true_and]

set_option maxRecDepth 100000 in
set_option maxHeartbeats 4000000 in
theorem l12Term_any (ns : List ByteArray) (na : Option Addr) (nc : Nat) (hns : ns.length ≤ 1000000000) : ∀ (d : Nat) (k n : Int) (s : ByteArray) (p : List Int) (pa : Option Addr) (pc : Nat) (f : TM) (a : Option Addr) (c : Nat) (w : World), d ≤ 1000 → XA w 0 ns na → PA w 0 p pa → MA w 0 f a →
    Calls Tryz.prog 104 #[.slice na ns.length nc, .agg #[.int .i64 k, .int .i64 n, .string s, .slice pa p.length pc, .slice a (tlen f) c], .int .i64 d] w fun e w' => e = .returned (.bool (termB ns d k n s p f)) ∧ Ex w w' := by
  intro d
  induction d with
  | zero =>
    intro k n s p pa pc f a c w _ _ _ _
    go_enter Tryz.func104, Tryz.ntmps104
    go_wp2_with fail
    go_ret
    exact ⟨ret_b rfl, Ex.new _ _⟩
  | succ d ih =>
    intro k n s p pa pc f a c w hd hX hP hM
    have X : Hid (∀ w', Ex w w' → XA w' 0 ns na) := fun _ h => XA_below hX h
    have P : Hid (∀ w', Ex w w' → PA w' 0 p pa) := fun _ h => PA_below hP h
    have M : Hid (∀ w', Ex w w' → MA w' 0 f a) := fun _ h => MA_below hM h
    have I : Hid _ := ih
    have N : Hid (Ex w (w.alloc (.cells #[.int .i64 k, .int .i64 n, .string s, .slice pa p.length pc, .slice a (tlen f) c] 90))) := Ex.new _ _
    have C : Hid (∀ w', Ex (w.alloc (.cells #[.int .i64 k, .int .i64 n, .string s, .slice pa p.length pc, .slice a (tlen f) c] 90)) w' → w'.cell? ⟨w.heap.size, 0, none⟩ = some (.int .i64 k) ∧ w'.cell? ⟨w.heap.size, 1, none⟩ = some (.int .i64 n) ∧ w'.cell? ⟨w.heap.size, 2, none⟩ = some (.string s) ∧ w'.cell? ⟨w.heap.size, 3, none⟩ = some (.slice pa p.length pc) ∧ w'.cell? ⟨w.heap.size, 4, none⟩ = some (.slice a (tlen f) c)) := fun w' h => ⟨h.at (by simp), h.at (by simp), h.at (by simp), h.at (by simp), h.at (by simp)⟩
    have d0 : decide (((d + 1 : Nat) : Int) < 1) = false := by simp; omega
    clear hX hP hM ih
    by_cases h2 : 2 < tlen f
    · have HR : Hid (termB ns (d + 1) k n s p f = false) := termB_len h2
      have d1 : decide ((2 : Int) < (tlen f : Int)) = true := by simp; omega
      go_enter Tryz.func104, Tryz.ntmps104
      go_wp2_with fail
      go_ret
      exact ⟨ret_b HR.out.symm, N.out⟩
    have d1 : decide ((2 : Int) < (tlen f : Int)) = false := by simp; omega
    by_cases h4 : 4 < p.length
    · have HR : Hid (termB ns (d + 1) k n s p f = false) := termB_plen h4
      have d2 : decide ((4 : Int) < (p.length : Int)) = true := by simp; omega
      go_enter Tryz.func104, Tryz.ntmps104
      go_wp2_with fail
      go_ret
      exact ⟨ret_b HR.out.symm, N.out⟩
    have d2 : decide ((4 : Int) < (p.length : Int)) = false := by simp; omega
    obtain ⟨D, hD⟩ : ∃ D : Int, D = ((d + 1 : Nat) : Int) := ⟨_, rfl⟩
    have HD : Hid (D = ((d + 1 : Nat) : Int)) := hD
    rw [← hD] at d0 ⊢
    have d3 : D - 1 = (d : Int) := by omega
    have d4 : IntKind.i64.wrap (D - 1) = (d : Int) := by rw [d3]; exact IntWalk.i64_in _ (by omega)
    clear hD
    go_enter Tryz.func104, Tryz.ntmps104
    go_wp2_with fail
    go_loopw [7] (fun i wr => ∃ (j : Nat), j ≤ tlen f ∧ i = .int .i64 j ∧ (∀ l, l < j → kidB ns d f l = true) ∧ Ex (w.alloc (.cells #[.int .i64 k, .int .i64 n, .string s, .slice pa p.length pc, .slice a (tlen f) c] 90)) wr) (fun i _ => tlen f - (intOf i).toNat)
    case atStart => exact ⟨0, by omega, rfl, fun j hj => by omega, Ex.refl _⟩
    case round =>
      obtain ⟨j, hj, rfl, hall, hx⟩ := hrel
      have A : Hid (∀ l, l < j → kidB ns d f l = true) := hall
      have E : Hid (Ex (w.alloc (.cells #[.int .i64 k, .int .i64 n, .string s, .slice pa p.length pc, .slice a (tlen f) c] 90)) wr) := hx
      obtain ⟨c0, c1, c2, c3, c4⟩ := C.out wr hx
      clear hall hx
      by_cases hlt : j < tlen f
      · obtain ⟨b, o, rfl, _, hbs, hk⟩ := MA_at (M.out wr (N.out.trans E.out)) (by omega)
        obtain ⟨e0, e1, e2, ⟨pa', pc', e3, hp'⟩, a', c', e4, hm'⟩ := hk j hlt
        have HI : Hid (∀ w', Ex wr w' → Calls Tryz.prog 104 #[.slice na ns.length nc, .agg #[.int .i64 (tkind f j), .int .i64 (tnum f j), .string (tname f j), .slice pa' (tpath f j).length pc', .slice a' (tlen (tkid f j)) c'], .int .i64 d] w' fun e w'' => e = .returned (.bool (kidB ns d f j)) ∧ Ex w' w'') :=
          fun w' h => I.out _ _ _ _ _ _ _ _ _ w' (by omega) (X.out w' (N.out.trans (E.out.trans h))) (PA_below (PS_pa.1 hp'.1) h) (MA_below hm' h)
        have U : Hid (kidB ns d f j = true → ∀ l, l < j + 1 → kidB ns d f l = true) := fun h => upto_succ A.out h
        have V : Hid (kidB ns d f j = false → termB ns (d + 1) k n s p f = false) := termB_kid hlt
        clear hk hp' hm'
        go_wp2_with fail
        refine (HI.out _ (Ex.refl _)).mono ?_
        rintro e w1 ⟨rfl, hb1⟩
        cases hkb : kidB ns d f j with
        | false =>
          have HR : Hid (termB ns (d + 1) k n s p f = false) := V.out hkb
          go_wp2_with fail
          go_ret
          exact ⟨ret_b HR.out.symm, N.out.trans (E.out.trans hb1)⟩
        | true =>
          have HU : Hid _ := U.out hkb
          go_wp2_with fail
          go_roundw
          case rel => exact ⟨j + 1, by omega, by go_num, HU.out, E.out.trans hb1⟩
          case measure => simp [intOf]; omega
      · have KB : Hid (∀ l, l < tlen f → kidB ns d f l = true) := fun l hl => A.out l (by omega)
        clear A
        go_wp2_with fail
        go_loopw [8] (fun i wr => ∃ (j : Nat), j ≤ p.length ∧ i = .int .i64 j ∧ (∀ l, l < j → 0 ≤ p.getD l 0 ∧ p.getD l 0 ≤ 1) ∧ Ex (w.alloc (.cells #[.int .i64 k, .int .i64 n, .string s, .slice pa p.length pc, .slice a (tlen f) c] 90)) wr) (fun i _ => p.length - (intOf i).toNat)
        case atStart => exact ⟨0, by omega, rfl, fun j hj => by omega, E.out⟩
        case round =>
          obtain ⟨j2, hj2, rfl, hall, hx⟩ := hrel
          have A : Hid (∀ l, l < j2 → 0 ≤ p.getD l 0 ∧ p.getD l 0 ≤ 1) := hall
          clear E c0 c1 c2 c3 c4
          have E : Hid (Ex (w.alloc (.cells #[.int .i64 k, .int .i64 n, .string s, .slice pa p.length pc, .slice a (tlen f) c] 90)) wr) := hx
          obtain ⟨c0, c1, c2, c3, c4⟩ := C.out wr hx
          clear hall hx
          by_cases hlt2 : j2 < p.length
          · obtain ⟨b, o, rfl, hbs, _, hc⟩ := PA_at (P.out wr (N.out.trans E.out)) (by omega)
            have ck := hc j2 hlt2
            have U : Hid (decide (0 ≤ p.getD j2 0 ∧ p.getD j2 0 ≤ 1) = true → ∀ l, l < j2 + 1 → 0 ≤ p.getD l 0 ∧ p.getD l 0 ≤ 1) := fun h => upto_succ A.out (of_decide_eq_true h)
            have V : Hid (decide (0 ≤ p.getD j2 0 ∧ p.getD j2 0 ≤ 1) = false → termB ns (d + 1) k n s p f = false) := fun h => termB_path (pathB_no hlt2 (of_decide_eq_false h))
            obtain ⟨x, hx⟩ : ∃ x, p.getD j2 0 = x := ⟨_, rfl⟩
            rw [hx] at ck U V
            clear hx hc
            go_wp2_with fail
            refine (l6In_any x 0 1 wr).mono ?_
            rintro e w2 ⟨rfl, hb2⟩
            cases hd : decide (0 ≤ x ∧ x ≤ 1) with
            | false =>
              have HR : Hid (termB ns (d + 1) k n s p f = false) := V.out hd
              go_wp2_with fail
              go_ret
              exact ⟨ret_b HR.out.symm, N.out.trans (E.out.trans hb2)⟩
            | true =>
              have HU : Hid _ := U.out hd
              clear hd U V
              go_wp2_with fail
              go_roundw
              case rel => exact ⟨j2 + 1, by omega, by go_num, HU.out, E.out.trans hb2⟩
              case measure => simp [intOf]; omega
          · have O : Hid (termB ns (d + 1) k n s p f = ownB ns k n s p (tlen f)) := termB_own (by omega) (by omega) KB.out (pathB_yes fun l hl => A.out l (by omega))
            have F : Hid (Ex w wr) := N.out.trans E.out
            clear A KB I M P
            by_cases k1 : k = 1
            · subst k1
              by_cases hs : s.size ≠ 0
              · have s1 : s.toList.isEmpty = false := full_size hs
                have HR : Hid (ownB ns 1 n s p (tlen f) = false) := ownB_s (by decide) hs
                go_wp2_with fail
                go_ret
                exact ⟨ret_b (O.out.trans HR.out).symm, F.out⟩
              have hs0 : s.size = 0 := by omega
              have s1 : s.toList.isEmpty = true := empty_size hs0
              by_cases hp : p.length ≠ 0
              · have p1 : decide ((0 : Int) < (p.length : Int)) = true := decide_eq_true (by omega)
                have HR : Hid (ownB ns 1 n s p (tlen f) = false) := ownB_p (by decide) hp
                go_wp2_with fail
                go_ret
                exact ⟨ret_b (O.out.trans HR.out).symm, F.out⟩
              have hp0 : p.length = 0 := by omega
              have p1 : decide ((0 : Int) < (p.length : Int)) = false := decide_eq_false (by omega)
              go_wp2_with fail
              refine (l6In_any n 0 9999 _).mono ?_
              rintro e w2 ⟨rfl, hb2⟩
              have c9 := (C.out w2 (E.out.trans hb2)).2.2.2.2
              cases hd : decide (0 ≤ n ∧ n ≤ 9999) with
              | false =>
                have HR : Hid (ownB ns 1 n s p (tlen f) = false) := by show _ = _; rw [ownB_1 hs0 hp0, hd]; rfl
                go_wp2_with fail
                go_ret
                exact ⟨ret_b (O.out.trans HR.out).symm, F.out.trans hb2⟩
              | true =>
                by_cases hl : tlen f = 0
                · have l1 : ((tlen f : Int) == 0) = true := by simp; omega
                  have l0 : (tlen f == 0) = true := by simp [hl]
                  have HR : Hid (ownB ns 1 n s p (tlen f) = true) := by show _ = _; rw [ownB_1 hs0 hp0, hd, l0]; rfl
                  go_wp2_with fail
                  go_ret
                  exact ⟨ret_b (O.out.trans HR.out).symm, F.out.trans hb2⟩
                · have l1 : ((tlen f : Int) == 0) = false := by simp; omega
                  have l0 : (tlen f == 0) = false := by simp [hl]
                  have HR : Hid (ownB ns 1 n s p (tlen f) = false) := by show _ = _; rw [ownB_1 hs0 hp0, hd, l0]; rfl
                  go_wp2_with fail
                  go_ret
                  exact ⟨ret_b (O.out.trans HR.out).symm, F.out.trans hb2⟩
            by_cases k2 : k = 2
            · subst k2
              by_cases hn : n ≠ 0
              · have n1 : (n != 0) = true := by simp [hn]
                have HR : Hid (ownB ns 2 n s p (tlen f) = false) := ownB_n (by decide) hn
                go_wp2_with fail
                go_ret
                exact ⟨ret_b (O.out.trans HR.out).symm, F.out⟩
              have hn0 : n = 0 := by omega
              have n1 : (n != 0) = false := by simp [hn0]
              by_cases hp : p.length ≠ 0
              · have p1 : decide ((0 : Int) < (p.length : Int)) = true := decide_eq_true (by omega)
                have HR : Hid (ownB ns 2 n s p (tlen f) = false) := ownB_p (by decide) hp
                go_wp2_with fail
                go_ret
                exact ⟨ret_b (O.out.trans HR.out).symm, F.out⟩
              have hp0 : p.length = 0 := by omega
              have p1 : decide ((0 : Int) < (p.length : Int)) = false := decide_eq_false (by omega)
              go_wp2_with fail
              refine (l12Has_any ns na nc s _ hns (X.out _ F.out)).mono ?_
              rintro e w2 ⟨rfl, hb2⟩
              have c9 := (C.out w2 (E.out.trans hb2)).2.2.2.2
              cases hd : hasB ns s with
              | false =>
                have HR : Hid (ownB ns 2 n s p (tlen f) = false) := by show _ = _; rw [ownB_2 hn0 hp0, hd]; rfl
                go_wp2_with fail
                go_ret
                exact ⟨ret_b (O.out.trans HR.out).symm, F.out.trans hb2⟩
              | true =>
                by_cases hl : tlen f = 0
                · have l1 : ((tlen f : Int) == 0) = true := by simp; omega
                  have l0 : (tlen f == 0) = true := by simp [hl]
                  have HR : Hid (ownB ns 2 n s p (tlen f) = true) := by show _ = _; rw [ownB_2 hn0 hp0, hd, l0]; rfl
                  go_wp2_with fail
                  go_ret
                  exact ⟨ret_b (O.out.trans HR.out).symm, F.out.trans hb2⟩
                · have l1 : ((tlen f : Int) == 0) = false := by simp; omega
                  have l0 : (tlen f == 0) = false := by simp [hl]
                  have HR : Hid (ownB ns 2 n s p (tlen f) = false) := by show _ = _; rw [ownB_2 hn0 hp0, hd, l0]; rfl
                  go_wp2_with fail
                  go_ret
                  exact ⟨ret_b (O.out.trans HR.out).symm, F.out.trans hb2⟩
            by_cases k7 : k = 7
            · subst k7
              by_cases hn : n ≠ 0
              · have n1 : (n != 0) = true := by simp [hn]
                have HR : Hid (ownB ns 7 n s p (tlen f) = false) := ownB_n (by decide) hn
                go_wp2_with fail
                go_ret
                exact ⟨ret_b (O.out.trans HR.out).symm, F.out⟩
              have hn0 : n = 0 := by omega
              have n1 : (n != 0) = false := by simp [hn0]
              by_cases hs : s.size ≠ 0
              · have s1 : s.toList.isEmpty = false := full_size hs
                have HR : Hid (ownB ns 7 n s p (tlen f) = false) := ownB_s (by decide) hs
                go_wp2_with fail
                go_ret
                exact ⟨ret_b (O.out.trans HR.out).symm, F.out⟩
              have hs0 : s.size = 0 := by omega
              have s1 : s.toList.isEmpty = true := empty_size hs0
              by_cases hl : tlen f = 1
              · have l1 : ((tlen f : Int) == 1) = true := by simp; omega
                have l0 : (tlen f == 1) = true := by simp [hl]
                have HR : Hid (ownB ns 7 n s p (tlen f) = true) := by show _ = _; rw [ownB_7 hn0 hs0, l0]
                go_wp2_with fail
                go_ret
                exact ⟨ret_b (O.out.trans HR.out).symm, F.out⟩
              · have l1 : ((tlen f : Int) == 1) = false := by simp; omega
                have l0 : (tlen f == 1) = false := by simp [hl]
                have HR : Hid (ownB ns 7 n s p (tlen f) = false) := by show _ = _; rw [ownB_7 hn0 hs0, l0]
                go_wp2_with fail
                go_ret
                exact ⟨ret_b (O.out.trans HR.out).symm, F.out⟩
            by_cases k8 : k = 8
            · subst k8
              by_cases hn : n ≠ 0
              · have n1 : (n != 0) = true := by simp [hn]
                have HR : Hid (ownB ns 8 n s p (tlen f) = false) := ownB_n (by decide) hn
                go_wp2_with fail
                go_ret
                exact ⟨ret_b (O.out.trans HR.out).symm, F.out⟩
              have hn0 : n = 0 := by omega
              have n1 : (n != 0) = false := by simp [hn0]
              by_cases hs : s.size ≠ 0
              · have s1 : s.toList.isEmpty = false := full_size hs
                have HR : Hid (ownB ns 8 n s p (tlen f) = false) := ownB_s (by decide) hs
                go_wp2_with fail
                go_ret
                exact ⟨ret_b (O.out.trans HR.out).symm, F.out⟩
              have hs0 : s.size = 0 := by omega
              have s1 : s.toList.isEmpty = true := empty_size hs0
              go_wp2_with fail
              refine (l6In_any 8 3 8 _).mono ?_
              rintro e w2 ⟨rfl, hb2⟩
              have c9 := (C.out w2 (E.out.trans hb2)).2.2.2.2
              by_cases hl : tlen f = 2
              · have l1 : ((tlen f : Int) == 2) = true := by simp; omega
                have l0 : (tlen f == 2) = true := by simp [hl]
                have HR : Hid (ownB ns 8 n s p (tlen f) = true) := by show _ = _; rw [ownB_8 hn0 hs0, l0]
                go_wp2_with fail
                go_ret
                exact ⟨ret_b (O.out.trans HR.out).symm, F.out.trans hb2⟩
              · have l1 : ((tlen f : Int) == 2) = false := by simp; omega
                have l0 : (tlen f == 2) = false := by simp [hl]
                have HR : Hid (ownB ns 8 n s p (tlen f) = false) := by show _ = _; rw [ownB_8 hn0 hs0, l0]
                go_wp2_with fail
                go_ret
                exact ⟨ret_b (O.out.trans HR.out).symm, F.out.trans hb2⟩
            have q1 : (k == 1) = false := by simp [k1]
            have q2 : (k == 2) = false := by simp [k2]
            have q7 : (k == 7) = false := by simp [k7]
            have q8 : (k == 8) = false := by simp [k8]
            have r1 : (k != 1) = true := by simp [k1]
            have r2 : (k != 2) = true := by simp [k2]
            by_cases hn : n ≠ 0
            · have n1 : (n != 0) = true := by simp [hn]
              have HR : Hid (ownB ns k n s p (tlen f) = false) := ownB_n k1 hn
              go_wp2_with fail
              go_ret
              exact ⟨ret_b (O.out.trans HR.out).symm, F.out⟩
            have hn0 : n = 0 := by omega
            have n1 : (n != 0) = false := by simp [hn0]
            by_cases hs : s.size ≠ 0
            · have s1 : s.toList.isEmpty = false := full_size hs
              have HR : Hid (ownB ns k n s p (tlen f) = false) := ownB_s k2 hs
              go_wp2_with fail
              go_ret
              exact ⟨ret_b (O.out.trans HR.out).symm, F.out⟩
            have hs0 : s.size = 0 := by omega
            have s1 : s.toList.isEmpty = true := empty_size hs0
            by_cases hp : p.length ≠ 0
            · have p1 : decide ((0 : Int) < (p.length : Int)) = true := decide_eq_true (by omega)
              have HR : Hid (ownB ns k n s p (tlen f) = false) := ownB_p (by omega) hp
              go_wp2_with fail
              go_ret
              exact ⟨ret_b (O.out.trans HR.out).symm, F.out⟩
            have hp0 : p.length = 0 := by omega
            have p1 : decide ((0 : Int) < (p.length : Int)) = false := decide_eq_false (by omega)
            go_wp2_with fail
            refine (l6In_any k 3 8 _).mono ?_
            rintro e w2 ⟨rfl, hb2⟩
            have c9 := (C.out w2 (E.out.trans hb2)).2.2.2.2
            cases hd : decide (3 ≤ k ∧ k ≤ 8) with
            | false =>
              have HR : Hid (ownB ns k n s p (tlen f) = false) := by show _ = _; rw [ownB_o k1 k2 k7 hn0 hs0 hp0, hd]; rfl
              go_wp2_with fail
              go_ret
              exact ⟨ret_b (O.out.trans HR.out).symm, F.out.trans hb2⟩
            | true =>
              by_cases hl : tlen f = 2
              · have l1 : ((tlen f : Int) == 2) = true := by simp; omega
                have l0 : (tlen f == 2) = true := by simp [hl]
                have HR : Hid (ownB ns k n s p (tlen f) = true) := by show _ = _; rw [ownB_o k1 k2 k7 hn0 hs0 hp0, hd, l0]; rfl
                go_wp2_with fail
                go_ret
                exact ⟨ret_b (O.out.trans HR.out).symm, F.out.trans hb2⟩
              · have l1 : ((tlen f : Int) == 2) = false := by simp; omega
                have l0 : (tlen f == 2) = false := by simp [hl]
                have HR : Hid (ownB ns k n s p (tlen f) = false) := by show _ = _; rw [ownB_o k1 k2 k7 hn0 hs0 hp0, hd, l0]; rfl
                go_wp2_with fail
                go_ret
                exact ⟨ret_b (O.out.trans HR.out).symm, F.out.trans hb2⟩

end Go.Proofs.YtgpdnoghlommeaaGreatDoor

namespace Go.Proofs.YtgpdnoghlommeaaGreatDoor

open Go.RowKit Go.Deep

/-- A list of bindings: each a kind, names, a function's name, terms, and two bodies (bindings, and terms that are said). -/
abbrev BD := BT (Int × List ByteArray × ByteArray × TM × TM × TM)

def blen : BD → Nat
  | .nil => 0
  | .node _ _ _ _ .nil => 0
  | .node _ _ (_, _, _, _, _, _) _ (.node _ _ _ _ r) => blen r + 1
def bkind : BD → Nat → Int
  | .nil, _ => 0
  | .node _ _ _ _ .nil, _ => 0
  | .node _ _ (k, _, _, _, _, _) _ (.node _ _ _ _ _), 0 => k
  | .node _ _ (_, _, _, _, _, _) _ (.node _ _ _ _ r), i + 1 => bkind r i
def bnames : BD → Nat → List ByteArray
  | .nil, _ => []
  | .node _ _ _ _ .nil, _ => []
  | .node _ _ (_, ns, _, _, _, _) _ (.node _ _ _ _ _), 0 => ns
  | .node _ _ (_, _, _, _, _, _) _ (.node _ _ _ _ r), i + 1 => bnames r i
def bfn : BD → Nat → ByteArray
  | .nil, _ => ⟨#[]⟩
  | .node _ _ _ _ .nil, _ => ⟨#[]⟩
  | .node _ _ (_, _, fn, _, _, _) _ (.node _ _ _ _ _), 0 => fn
  | .node _ _ (_, _, _, _, _, _) _ (.node _ _ _ _ r), i + 1 => bfn r i
def bterms : BD → Nat → TM
  | .nil, _ => .nil
  | .node _ _ _ _ .nil, _ => .nil
  | .node _ _ (_, _, _, ts, _, _) _ (.node _ _ _ _ _), 0 => ts
  | .node _ _ (_, _, _, _, _, _) _ (.node _ _ _ _ r), i + 1 => bterms r i
def bthen : BD → Nat → BD
  | .nil, _ => .nil
  | .node _ _ _ _ .nil, _ => .nil
  | .node _ _ (_, _, _, _, _, _) tb (.node _ _ _ _ _), 0 => tb
  | .node _ _ (_, _, _, _, _, _) _ (.node _ _ _ _ r), i + 1 => bthen r i
def btsay : BD → Nat → TM
  | .nil, _ => .nil
  | .node _ _ _ _ .nil, _ => .nil
  | .node _ _ (_, _, _, _, tz, _) _ (.node _ _ _ _ _), 0 => tz
  | .node _ _ (_, _, _, _, _, _) _ (.node _ _ _ _ r), i + 1 => btsay r i
def belse : BD → Nat → BD
  | .nil, _ => .nil
  | .node _ _ _ _ .nil, _ => .nil
  | .node _ _ (_, _, _, _, _, _) _ (.node _ _ _ eb _), 0 => eb
  | .node _ _ (_, _, _, _, _, _) _ (.node _ _ _ _ r), i + 1 => belse r i
def besay : BD → Nat → TM
  | .nil, _ => .nil
  | .node _ _ _ _ .nil, _ => .nil
  | .node _ _ (_, _, _, _, _, ez) _ (.node _ _ _ _ _), 0 => ez
  | .node _ _ (_, _, _, _, _, _) _ (.node _ _ _ _ r), i + 1 => besay r i
def bdep : BD → Nat
  | .nil => 0
  | .node _ _ _ _ .nil => 0
  | .node _ _ (_, _, _, _, _, _) tb (.node _ _ _ eb r) => max (max (bdep tb + 1) (bdep eb + 1)) (bdep r)

theorem bdep_kid : ∀ (f : BD) (i : Nat), i < blen f → bdep (bthen f i) < bdep f ∧ bdep (belse f i) < bdep f
  | .nil, _, h => by simp [blen] at h
  | .node _ _ _ _ .nil, _, h => by simp [blen] at h
  | .node _ _ (_, _, _, _, _, _) tb (.node _ _ _ eb r), 0, _ => by simp only [bthen, belse, bdep]; omega
  | .node _ _ (_, _, _, _, _, _) tb (.node _ _ _ eb r), i + 1, h => by
    have := bdep_kid r i (by simp only [blen] at h; omega)
    simp only [bthen, belse, bdep]; omega

/-- A list of bindings lies at block b from place o on: eight cells each, all behind them in blocks of S. -/
def BC (w : World) (S : Nat → Prop) : BD → Nat → Nat → Prop
  | .nil, _, _ => True
  | .node _ _ _ _ .nil, _, _ => True
  | .node _ _ (k, ns, fn, ts, tz, ez) tb (.node _ _ _ eb r), b, o => (w.cell? ⟨b, o, none⟩ = some (.int .i64 k) ∧ (∃ a c, w.cell? ⟨b, o + 1, none⟩ = some (.slice a ns.length c) ∧ ns.length ≤ c ∧ XS w S ns a) ∧ w.cell? ⟨b, o + 2, none⟩ = some (.string fn) ∧ (∃ a c, w.cell? ⟨b, o + 3, none⟩ = some (.slice a (tlen ts) c) ∧ MS w S ts a) ∧
      (∃ a c, w.cell? ⟨b, o + 4, none⟩ = some (.slice a (blen tb) c) ∧ (blen tb = 0 ∨ ∃ b' o', a = some ⟨b', o', none⟩ ∧ S b' ∧ BC w S tb b' o')) ∧ (∃ a c, w.cell? ⟨b, o + 5, none⟩ = some (.slice a (tlen tz) c) ∧ MS w S tz a) ∧
      (∃ a c, w.cell? ⟨b, o + 6, none⟩ = some (.slice a (blen eb) c) ∧ (blen eb = 0 ∨ ∃ b' o', a = some ⟨b', o', none⟩ ∧ S b' ∧ BC w S eb b' o')) ∧ (∃ a c, w.cell? ⟨b, o + 7, none⟩ = some (.slice a (tlen ez) c) ∧ MS w S ez a)) ∧ BC w S r b (o + 8)

/-- A list of bindings lies behind a slice's address. -/
def BS (w : World) (S : Nat → Prop) (f : BD) (a : Option Addr) : Prop := blen f = 0 ∨ ∃ b o, a = some ⟨b, o, none⟩ ∧ S b ∧ BC w S f b o

/-- The eight cells of a binding. -/
def BT8 (w : World) (S : Nat → Prop) (f : BD) (i b o : Nat) : Prop :=
  w.cell? ⟨b, o, none⟩ = some (.int .i64 (bkind f i)) ∧ (∃ a c, w.cell? ⟨b, o + 1, none⟩ = some (.slice a (bnames f i).length c) ∧ (bnames f i).length ≤ c ∧ XS w S (bnames f i) a) ∧ w.cell? ⟨b, o + 2, none⟩ = some (.string (bfn f i)) ∧ (∃ a c, w.cell? ⟨b, o + 3, none⟩ = some (.slice a (tlen (bterms f i)) c) ∧ MS w S (bterms f i) a) ∧
    (∃ a c, w.cell? ⟨b, o + 4, none⟩ = some (.slice a (blen (bthen f i)) c) ∧ BS w S (bthen f i) a) ∧ (∃ a c, w.cell? ⟨b, o + 5, none⟩ = some (.slice a (tlen (btsay f i)) c) ∧ MS w S (btsay f i) a) ∧
    (∃ a c, w.cell? ⟨b, o + 6, none⟩ = some (.slice a (blen (belse f i)) c) ∧ BS w S (belse f i) a) ∧ (∃ a c, w.cell? ⟨b, o + 7, none⟩ = some (.slice a (tlen (besay f i)) c) ∧ MS w S (besay f i) a)

theorem BC_cell {w : World} {S : Nat → Prop} : ∀ {f : BD} {b o : Nat}, BC w S f b o → ∀ i, i < blen f → BT8 w S f i b (o + i * 8)
  | .nil, _, _, _, i, h => by simp [blen] at h
  | .node _ _ _ _ .nil, _, _, _, i, h => by simp [blen] at h
  | .node _ _ (_, _, _, _, _, _) _ (.node _ _ _ _ r), b, o, hc, 0, _ => hc.1
  | .node _ _ (_, _, _, _, _, _) _ (.node _ _ _ _ r), b, o, hc, i + 1, h => by
    have := BC_cell hc.2 i (by simp only [blen] at h; omega)
    rw [show o + 8 + i * 8 = o + (i + 1) * 8 by omega] at this
    exact this

theorem BC_mk {w : World} {S : Nat → Prop} : ∀ {f : BD} {b o : Nat}, (∀ i, i < blen f → BT8 w S f i b (o + i * 8)) → BC w S f b o
  | .nil, _, _, _ => trivial
  | .node _ _ _ _ .nil, _, _, _ => trivial
  | .node _ _ (_, _, _, _, _, _) _ (.node _ _ _ _ r), b, o, h => by
    refine ⟨h 0 (by simp [blen]), BC_mk fun i hi => ?_⟩
    have := h (i + 1) (by simp only [blen]; omega)
    rw [show o + (i + 1) * 8 = o + 8 + i * 8 by omega] at this
    exact this

theorem BC_ks {w w' : World} {S : Nat → Prop} (hk : Ks S w w') : ∀ {f : BD} {b o : Nat}, S b → BC w S f b o → BC w' S f b o
  | .nil, _, _, _, _ => trivial
  | .node _ _ _ _ .nil, _, _, _, _ => trivial
  | .node _ _ (_, _, _, _, _, _) _ (.node _ _ _ _ r), b, o, hb, ⟨⟨h0, ⟨a1, c1, h1, x1⟩, h2, ⟨a3, c3, h3, x3⟩, ⟨a4, c4, h4, x4⟩, ⟨a5, c5, h5, x5⟩, ⟨a6, c6, h6, x6⟩, ⟨a7, c7, h7, x7⟩⟩, hr⟩ => by
    have K : ∀ {i : Nat} {v : Value}, w.cell? ⟨b, i, none⟩ = some v → w'.cell? ⟨b, i, none⟩ = some v := fun h => by rw [hk.cell hb (World.block_lt_of_cell? _ _ h)]; exact h
    refine ⟨⟨K h0, ⟨a1, c1, K h1, x1.1, XS_ks x1.2 hk⟩, K h2, ⟨a3, c3, K h3, MS_ks x3 hk⟩, ⟨a4, c4, K h4, ?_⟩, ⟨a5, c5, K h5, MS_ks x5 hk⟩, ⟨a6, c6, K h6, ?_⟩, ⟨a7, c7, K h7, MS_ks x7 hk⟩⟩, BC_ks hk hb hr⟩
    · rcases x4 with h | ⟨b', o', e, hb', ht⟩
      · exact Or.inl h
      · exact Or.inr ⟨b', o', e, hb', BC_ks hk hb' ht⟩
    · rcases x6 with h | ⟨b', o', e, hb', ht⟩
      · exact Or.inl h
      · exact Or.inr ⟨b', o', e, hb', BC_ks hk hb' ht⟩

theorem BS_ks {w w' : World} {S : Nat → Prop} {f : BD} {a : Option Addr} (h : BS w S f a) (hk : Ks S w w') : BS w' S f a := by
  rcases h with h | ⟨b, o, e, hb, ht⟩
  · exact Or.inl h
  · exact Or.inr ⟨b, o, e, hb, BC_ks hk hb ht⟩

theorem BC_mono {w : World} {S S' : Nat → Prop} (hl : ∀ b, b < w.heap.size → S b → S' b) : ∀ {f : BD} {b o : Nat}, BC w S f b o → BC w S' f b o
  | .nil, _, _, _ => trivial
  | .node _ _ _ _ .nil, _, _, _ => trivial
  | .node _ _ (_, _, _, _, _, _) tb (.node _ _ _ eb r), b, o, ⟨⟨h0, ⟨a1, c1, h1, x1⟩, h2, ⟨a3, c3, h3, x3⟩, ⟨a4, c4, h4, x4⟩, ⟨a5, c5, h5, x5⟩, ⟨a6, c6, h6, x6⟩, ⟨a7, c7, h7, x7⟩⟩, hr⟩ => by
    refine ⟨⟨h0, ⟨a1, c1, h1, x1.1, XS_mono x1.2 hl⟩, h2, ⟨a3, c3, h3, MS_mono x3 hl⟩, ⟨a4, c4, h4, ?_⟩, ⟨a5, c5, h5, MS_mono x5 hl⟩, ⟨a6, c6, h6, ?_⟩, ⟨a7, c7, h7, MS_mono x7 hl⟩⟩, BC_mono hl hr⟩
    · rcases x4 with h | ⟨b', o', e, hb', ht⟩
      · exact Or.inl h
      · by_cases h0 : blen tb = 0
        · exact Or.inl h0
        · exact Or.inr ⟨b', o', e, hl b' (World.block_lt_of_cell? _ _ (BC_cell ht 0 (by omega)).1) hb', BC_mono hl ht⟩
    · rcases x6 with h | ⟨b', o', e, hb', ht⟩
      · exact Or.inl h
      · by_cases h0 : blen eb = 0
        · exact Or.inl h0
        · exact Or.inr ⟨b', o', e, hl b' (World.block_lt_of_cell? _ _ (BC_cell ht 0 (by omega)).1) hb', BC_mono hl ht⟩

theorem BS_mono {w : World} {S S' : Nat → Prop} {f : BD} {a : Option Addr} (h : BS w S f a) (hl : ∀ b, b < w.heap.size → S b → S' b) : BS w S' f a := by
  rcases h with h | ⟨b, o, e, hb, ht⟩
  · exact Or.inl h
  · by_cases h0 : blen f = 0
    · exact Or.inl h0
    · exact Or.inr ⟨b, o, e, hl b (World.block_lt_of_cell? _ _ (BC_cell ht 0 (by omega)).1) hb, BC_mono hl ht⟩

theorem BS_mk {w : World} {S : Nat → Prop} {f : BD} {g o : Nat} (hg : S g) (h : ∀ i, i < blen f → BT8 w S f i g (o + i * 8)) : BS w S f (some ⟨g, o, none⟩) :=
  Or.inr ⟨g, o, rfl, hg, BC_mk h⟩

/-- .. all from block lo on. -/
def BA (w : World) (lo : Nat) (f : BD) (a : Option Addr) : Prop := BS w (fun b => lo ≤ b) f a
theorem BA_kp {w w' : World} {lo : Nat} {f : BD} {a : Option Addr} (h : BA w lo f a) (hk : Kp lo w w') : BA w' lo f a := BS_ks h hk.block
theorem BA_lo {w : World} {lo lo' : Nat} {f : BD} {a : Option Addr} (h : BA w lo f a) (hl : lo' ≤ lo) : BA w lo' f a := BS_mono h fun _ _ hb => Nat.le_trans hl hb
theorem BA_below {w w' : World} {lo : Nat} {f : BD} {a : Option Addr} (h : BA w lo f a) (hb : Ex w w') : BA w' lo f a := BA_kp h (Kp.of_below hb lo)
theorem BA_at {w : World} {lo : Nat} {f : BD} {a : Option Addr} (h : BA w lo f a) (h0 : 0 < blen f) : ∃ b o, a = some ⟨b, o, none⟩ ∧ lo ≤ b ∧ b < w.heap.size ∧ ∀ i, i < blen f → BT8 w (fun b => lo ≤ b) f i b (o + i * 8) := by
  rcases h with h | ⟨b, o, e, hb, ht⟩
  · omega
  · exact ⟨b, o, e, hb, World.block_lt_of_cell? _ _ (BC_cell ht 0 h0).1, fun i hi => BC_cell ht i hi⟩

/-- A function without places. -/
structure PM where
  name : ByteArray
  params : List ByteArray
  binds : BD
  says : TM
/-- None. -/
def pm0 : PM := ⟨⟨#[]⟩, [], .nil, .nil⟩

/-- The four cells of a function. -/
def PT (w : World) (S : Nat → Prop) (f : PM) (b o : Nat) : Prop :=
  w.cell? ⟨b, o, none⟩ = some (.string f.name) ∧ (∃ a c, w.cell? ⟨b, o + 1, none⟩ = some (.slice a f.params.length c) ∧ f.params.length ≤ c ∧ XS w S f.params a) ∧ (∃ a c, w.cell? ⟨b, o + 2, none⟩ = some (.slice a (blen f.binds) c) ∧ BS w S f.binds a) ∧ (∃ a c, w.cell? ⟨b, o + 3, none⟩ = some (.slice a (tlen f.says) c) ∧ MS w S f.says a)

/-- Functions lie behind an address. -/
def QS (w : World) (S : Nat → Prop) (l : List PM) (a : Option Addr) : Prop := l.length = 0 ∨ ∃ b o, a = some ⟨b, o, none⟩ ∧ S b ∧ ∀ i, i < l.length → PT w S (l.getD i pm0) b (o + i * 4)
theorem PT_ks {w w' : World} {S : Nat → Prop} (hk : Ks S w w') {f : PM} {b o : Nat} (hb : S b) (h : PT w S f b o) : PT w' S f b o := by
  obtain ⟨h0, ⟨a1, c1, h1, x1⟩, ⟨a2, c2, h2, x2⟩, ⟨a3, c3, h3, x3⟩⟩ := h
  have K : ∀ {i : Nat} {v : Value}, w.cell? ⟨b, i, none⟩ = some v → w'.cell? ⟨b, i, none⟩ = some v := fun h => by rw [hk.cell hb (World.block_lt_of_cell? _ _ h)]; exact h
  exact ⟨K h0, ⟨a1, c1, K h1, x1.1, XS_ks x1.2 hk⟩, ⟨a2, c2, K h2, BS_ks x2 hk⟩, ⟨a3, c3, K h3, MS_ks x3 hk⟩⟩
theorem PT_mono {w : World} {S S' : Nat → Prop} (hl : ∀ b, b < w.heap.size → S b → S' b) {f : PM} {b o : Nat} (h : PT w S f b o) : PT w S' f b o := by
  obtain ⟨h0, ⟨a1, c1, h1, x1⟩, ⟨a2, c2, h2, x2⟩, ⟨a3, c3, h3, x3⟩⟩ := h
  exact ⟨h0, ⟨a1, c1, h1, x1.1, XS_mono x1.2 hl⟩, ⟨a2, c2, h2, BS_mono x2 hl⟩, ⟨a3, c3, h3, MS_mono x3 hl⟩⟩
theorem QS_ks {w w' : World} {S : Nat → Prop} {l : List PM} {a : Option Addr} (h : QS w S l a) (hk : Ks S w w') : QS w' S l a := by
  rcases h with h | ⟨b, o, e, hb, ht⟩
  · exact Or.inl h
  · exact Or.inr ⟨b, o, e, hb, fun i hi => PT_ks hk hb (ht i hi)⟩
theorem QS_mono {w : World} {S S' : Nat → Prop} {l : List PM} {a : Option Addr} (h : QS w S l a) (hl : ∀ b, b < w.heap.size → S b → S' b) : QS w S' l a := by
  rcases h with h | ⟨b, o, e, hb, ht⟩
  · exact Or.inl h
  · by_cases h0 : l.length = 0
    · exact Or.inl h0
    · exact Or.inr ⟨b, o, e, hl b (World.block_lt_of_cell? _ _ (ht 0 (by omega)).1) hb, fun i hi => PT_mono hl (ht i hi)⟩
def QA (w : World) (lo : Nat) (l : List PM) (a : Option Addr) : Prop := QS w (fun b => lo ≤ b) l a
theorem QA_kp {w w' : World} {lo : Nat} {f : List PM} {a : Option Addr} (h : QA w lo f a) (hk : Kp lo w w') : QA w' lo f a := QS_ks h hk.block
theorem QA_lo {w : World} {lo lo' : Nat} {f : List PM} {a : Option Addr} (h : QA w lo f a) (hl : lo' ≤ lo) : QA w lo' f a := QS_mono h fun _ _ hb => Nat.le_trans hl hb
theorem QA_below {w w' : World} {lo : Nat} {f : List PM} {a : Option Addr} (h : QA w lo f a) (hb : Ex w w') : QA w' lo f a := QA_kp h (Kp.of_below hb lo)
theorem QA_at {w : World} {lo : Nat} {l : List PM} {a : Option Addr} (h : QA w lo l a) (h0 : 0 < l.length) : ∃ b o, a = some ⟨b, o, none⟩ ∧ lo ≤ b ∧ b < w.heap.size ∧ ∀ i, i < l.length → PT w (fun b => lo ≤ b) (l.getD i pm0) b (o + i * 4) := by
  rcases h with h | ⟨b, o, e, hb, ht⟩
  · omega
  · exact ⟨b, o, e, hb, World.block_lt_of_cell? _ _ (ht 0 h0).1, ht⟩

end Go.Proofs.YtgpdnoghlommeaaGreatDoor

namespace Go.Proofs.YtgpdnoghlommeaaGreatDoor

open Go.RowKit Go.Deep

attribute [local go_sem ↓] Go.wp_at_zero Go.wp_at_succ

/-- Terms are ok by names. -/
def termsB (ns : List ByteArray) (f : TM) : Bool := decide (tlen f ≤ 60) && (List.range (tlen f)).all fun i => kidB ns 8 f i
theorem termsB_len {ns : List ByteArray} {f : TM} (h : 60 < tlen f) : termsB ns f = false := by simp [termsB, show ¬ tlen f ≤ 60 by omega]
theorem termsB_no {ns : List ByteArray} {f : TM} {i : Nat} (h : i < tlen f) (hb : kidB ns 8 f i = false) : termsB ns f = false := by
  cases hn : termsB ns f with
  | false => rfl
  | true =>
    simp only [termsB, Bool.and_eq_true, List.all_eq_true, List.mem_range] at hn
    rw [hn.2 i h] at hb; cases hb
theorem termsB_yes {ns : List ByteArray} {f : TM} (h1 : tlen f ≤ 60) (h : ∀ i, i < tlen f → kidB ns 8 f i = true) : termsB ns f = true := by
  simp only [termsB, Bool.and_eq_true, List.all_eq_true, List.mem_range, decide_eq_true_eq]
  exact ⟨h1, h⟩

set_option maxRecDepth 100000 in
set_option maxHeartbeats 1000000 in
theorem l12Terms_any (ns : List ByteArray) (na : Option Addr) (nc : Nat) (hns : ns.length ≤ 1000000000) (f : TM) (a : Option Addr) (c : Nat) (w : World) (hX : XA w 0 ns na) (hM : MA w 0 f a) :
    Calls Tryz.prog 76 #[.slice na ns.length nc, .slice a (tlen f) c] w fun e w' => e = .returned (.bool (termsB ns f)) ∧ Ex w w' := by
  have X : Hid (∀ w', Ex w w' → XA w' 0 ns na) := fun _ h => XA_below hX h
  have M : Hid (∀ w', Ex w w' → MA w' 0 f a) := fun _ h => MA_below hM h
  clear hX hM
  by_cases h60 : 60 < tlen f
  · have HR : Hid (termsB ns f = false) := termsB_len h60
    have d1 : decide ((60 : Int) < (tlen f : Int)) = true := by simp; omega
    go_enter Tryz.func76, Tryz.ntmps76
    go_wp2_with fail
    go_ret
    exact ⟨ret_b HR.out.symm, Ex.refl _⟩
  have d1 : decide ((60 : Int) < (tlen f : Int)) = false := by simp; omega
  go_enter Tryz.func76, Tryz.ntmps76
  go_wp2_with fail
  go_loopw [5] (fun i wr => ∃ (j : Nat), j ≤ tlen f ∧ i = .int .i64 j ∧ (∀ l, l < j → kidB ns 8 f l = true) ∧ Ex w wr) (fun i _ => tlen f - (intOf i).toNat)
  case atStart => exact ⟨0, by omega, rfl, fun j hj => by omega, Ex.refl _⟩
  case round =>
    obtain ⟨j, hj, rfl, hall, hx⟩ := hrel
    have A : Hid (∀ l, l < j → kidB ns 8 f l = true) := hall
    have E : Hid (Ex w wr) := hx
    clear hall hx
    by_cases hlt : j < tlen f
    · obtain ⟨b, o, rfl, _, hbs, hk⟩ := MA_at (M.out wr E.out) (by omega)
      obtain ⟨e0, e1, e2, ⟨pa', pc', e3, hp'⟩, a', c', e4, hm'⟩ := hk j hlt
      have HI : Hid (∀ w', Ex wr w' → Calls Tryz.prog 104 #[.slice na ns.length nc, .agg #[.int .i64 (tkind f j), .int .i64 (tnum f j), .string (tname f j), .slice pa' (tpath f j).length pc', .slice a' (tlen (tkid f j)) c'], .int .i64 8] w' fun e w'' => e = .returned (.bool (kidB ns 8 f j)) ∧ Ex w' w'') :=
        fun w' h => l12Term_any ns na nc hns 8 _ _ _ _ _ _ _ _ _ w' (by omega) (X.out w' (E.out.trans h)) (PA_below (PS_pa.1 hp'.1) h) (MA_below hm' h)
      have U : Hid (kidB ns 8 f j = true → ∀ l, l < j + 1 → kidB ns 8 f l = true) := fun h => upto_succ A.out h
      have V : Hid (kidB ns 8 f j = false → termsB ns f = false) := termsB_no hlt
      clear hk hp' hm'
      go_wp2_with fail
      refine (HI.out _ (Ex.refl _)).mono ?_
      rintro e w1 ⟨rfl, hb1⟩
      cases hkb : kidB ns 8 f j with
      | false =>
        have HR : Hid (termsB ns f = false) := V.out hkb
        go_wp2_with fail
        go_ret
        exact ⟨ret_b HR.out.symm, E.out.trans hb1⟩
      | true =>
        have HU : Hid _ := U.out hkb
        go_wp2_with fail
        go_roundw
        case rel => exact ⟨j + 1, by omega, by go_num, HU.out, E.out.trans hb1⟩
        case measure => simp [intOf]; omega
    · have HR : Hid (termsB ns f = true) := termsB_yes (by omega) fun l hl => A.out l (by omega)
      go_wp2_with fail
      go_ret
      exact ⟨ret_b HR.out.symm, E.out⟩

/-- How much a function is given, and says. -/
def arityR (l : List PM) (s : ByteArray) : Nat × Nat × Bool := match l.find? (fun f => f.name.toList == s.toList) with
  | some f => (f.params.length, tlen f.says, true)
  | none => (0, 0, false)

theorem arity_yes {l : List PM} {s : ByteArray} {m i : Nat} (h : i < l.length) (him : i < m) (hb : ∀ j, j < i → ((l.getD j pm0).name.toList == s.toList) = false) (he : ((l.getD i pm0).name.toList == s.toList) = true) : arityR (l.take m) s = ((l.getD i pm0).params.length, tlen (l.getD i pm0).says, true) := by
  have : (l.take m).find? (fun f => f.name.toList == s.toList) = some (l.getD i pm0) := by
    rw [List.find?_eq_some_iff_getElem]
    refine ⟨he, i, by rw [List.length_take]; omega, by simp [List.getD, h], fun j hj => ?_⟩
    have hjl : j < l.length := by omega
    have := hb j hj
    simp only [List.getD, List.getElem?_eq_getElem hjl, Option.getD_some] at this
    simp only [List.getElem_take, this, Bool.not_false]
  simp only [arityR, this]
theorem arity_no {l : List PM} {s : ByteArray} {m : Nat} (hm : m ≤ l.length) (hb : ∀ j, j < m → ((l.getD j pm0).name.toList == s.toList) = false) : arityR (l.take m) s = (0, 0, false) := by
  have : (l.take m).find? (fun f => f.name.toList == s.toList) = none := by
    rw [List.find?_eq_none]
    intro f hf
    obtain ⟨i, hi, rfl⟩ := List.getElem_of_mem hf
    rw [List.length_take] at hi
    have hil : i < l.length := by omega
    have := hb i (by omega)
    simp only [List.getD, List.getElem?_eq_getElem hil, Option.getD_some] at this
    simp only [List.getElem_take, this]
    simp
  simp only [arityR, this]

set_option maxRecDepth 100000 in
set_option maxHeartbeats 1000000 in
theorem l12Arity_any (l : List PM) (a : Option Addr) (c : Nat) (m : Nat) (s : ByteArray) (w : World) (hm : m ≤ l.length) (hl : l.length ≤ 1000000000) (hQ : QA w 0 l a) :
    Calls Tryz.prog 22 #[.slice a l.length c, .int .i64 m, .string s] w fun e w' => e = .returned (.tuple #[.int .i64 (arityR (l.take m) s).1, .int .i64 (arityR (l.take m) s).2.1, .bool (arityR (l.take m) s).2.2]) ∧ Ex w w' := by
  have Q : Hid (∀ w', Ex w w' → QA w' 0 l a) := fun _ h => QA_below hQ h
  clear hQ
  go_enter Tryz.func22, Tryz.ntmps22
  go_wp2_with fail
  go_loopw [9] (fun i wr => ∃ (j : Nat), j ≤ m ∧ i = .int .i64 j ∧ (∀ k, k < j → ((l.getD k pm0).name.toList == s.toList) = false) ∧ Ex w wr) (fun i _ => m - (intOf i).toNat)
  case atStart => exact ⟨0, by omega, rfl, fun j hj => by omega, Ex.refl _⟩
  case round =>
    obtain ⟨j, hj, rfl, hall, hx⟩ := hrel
    have A : Hid (∀ k, k < j → ((l.getD k pm0).name.toList == s.toList) = false) := hall
    have E : Hid (Ex w wr) := hx
    clear hall hx
    by_cases hlt : j < m
    · obtain ⟨b, o, rfl, _, hbs, hk⟩ := QA_at (Q.out wr E.out) (by omega)
      obtain ⟨e0, ⟨a1, c1, e1, hh1⟩, hh2, ⟨a3, c3, e3, hh3⟩⟩ := hk j (by omega)
      clear hh1 hh2 hh3
      have U : Hid (((l.getD j pm0).name.toList == s.toList) = false → ∀ k, k < j + 1 → ((l.getD k pm0).name.toList == s.toList) = false) := fun h => upto_succ A.out h
      have V : Hid (((l.getD j pm0).name.toList == s.toList) = true → arityR (l.take m) s = ((l.getD j pm0).params.length, tlen (l.getD j pm0).says, true)) := fun h => arity_yes (by omega) hlt A.out h
      have hjl : j < l.length := by omega
      obtain ⟨g, hg⟩ : ∃ g, l.getD j pm0 = g := ⟨_, rfl⟩
      rw [hg] at e0 e1 e3 U V
      clear hk hg
      obtain ⟨gn, gp, gb, gs⟩ := g
      cases he : gn.toList == s.toList with
      | true =>
        have HR : Hid _ := V.out he
        have KS : Hid (∀ w', Ex wr w' → (Ex wr w' ∧ w'.cell? ⟨b, o + j * 4, none⟩ = some (.string gn) ∧ w'.cell? ⟨b, o + j * 4 + 1, none⟩ = some (.slice a1 gp.length c1) ∧ w'.cell? ⟨b, o + j * 4 + 3, none⟩ = some (.slice a3 (tlen gs) c3))) := fun w' h => ⟨h, h.at e0, h.at e1, h.at e3⟩
        go_wp2_with fail
        go_region_held3 (fun w' => Ex wr w' ∧ w'.cell? ⟨b, o + j * 4, none⟩ = some (.string gn) ∧ w'.cell? ⟨b, o + j * 4 + 1, none⟩ = some (.slice a1 gp.length c1) ∧ w'.cell? ⟨b, o + j * 4 + 3, none⟩ = some (.slice a3 (tlen gs) c3)) ((refine KS.out _ ?_; first | exact (Ex.refl _).drew | exact Ex.trans (And.left ‹Ex _ _ ∧ _›) ‹Ex _ _› | exact (And.left ‹Ex _ _ ∧ _›))) (fail)
        have hx7 := And.left ‹Ex wr _ ∧ _›
        go_wp2_with fail
        refine bodyPost_ret (v := .tuple #[.int .i64 gp.length, .int .i64 (tlen gs), .bool true]) (by simp [results, Tryz.results22, go_sem]) rfl ?_
        rw [HR.out]
        exact ⟨rfl, E.out.trans hx7⟩
      | false =>
        have HU : Hid _ := U.out he
        go_wp2_with fail
        go_roundw
        case rel => exact ⟨j + 1, by omega, by go_num, HU.out, E.out⟩
        case measure => simp [intOf]; omega
    · have HR : Hid _ := arity_no hm (s := s) fun k hk => A.out k (by omega)
      go_wp2_with fail
      refine bodyPost_ret (v := .tuple #[.int .i64 0, .int .i64 0, .bool false]) (by simp [results, Tryz.results22, go_sem]) rfl ?_
      rw [HR.out]
      exact ⟨rfl, E.out⟩

end Go.Proofs.YtgpdnoghlommeaaGreatDoor

namespace Go.Proofs.YtgpdnoghlommeaaGreatDoor

open Go.RowKit Go.Deep

theorem grown_same (w : World) (o : Option Nat) : w.grownBy w o := ⟨rfl, rfl, rfl, Nat.le_refl _, fun _ _ _ => rfl⟩
theorem row_own {w : World} {base n : Nat} {e : TypeId} {size : Nat} {v : Value} {xs : List Value} (h : w.ownsRow base e size v n xs) : ∀ k, v.ownBlock = some k → base ≤ k := by
  obtain ⟨_, ⟨rfl, _⟩ | ⟨g, cap, cur, rfl, hb, _⟩⟩ := h
  · intro k hk; cases hk
  · intro k hk; cases hk; exact hb
theorem ex_grow {a b c : World} {v : Value} (h : Ex a b) (hg : b.grownBy c v.ownBlock) (hr : ∀ k, v.ownBlock = some k → a.heap.size ≤ k) : Ex a c :=
  ⟨hg.os.trans h.os, hg.tape.trans h.tape, hg.output.trans h.output, Nat.le_trans h.size hg.size, fun k hk => (hg.block k (Nat.lt_of_lt_of_le hk h.size) (fun e => by have := hr k e.symm; omega)).trans (h.block k hk)⟩

/-- To put nothing behind what is owned changes nothing. -/
theorem run_append_zero {P : Program} {w : World} (base : Nat) (t ty e : TypeId) (i : TypeInfo) (size : Nat) (ht : P.underlying t = some (.slice e)) (hi : P.info? e = some i)
    (v : Value) (n : Nat) (xs : List Value) (hown : w.ownsRow base e size v n xs) (a : Option Addr) (c : Nat) :
    (Builtin.append_ #[t, t] ty #[v, .slice a 0 c]).run P w = .ok v w := by
  rcases hown.2 with ⟨rfl, rfl⟩ | ⟨g, cap, cur, rfl, _, _, hnc, _⟩
  · cases a with
    | none => simp [Builtin.append_, run_underlying ht, sizeOf, typeInfo, hi, Builtin.lenOf, Builtin.firstCells]
    | some a => simp [Builtin.append_, run_underlying ht, sizeOf, typeInfo, hi, Builtin.lenOf, Builtin.firstCells, loadCells, loadCellsFrom]
  · cases a with
    | none => simp [Builtin.append_, run_underlying ht, sizeOf, typeInfo, hi, Builtin.lenOf, Builtin.firstCells, hnc, storeCells]
    | some a => simp [Builtin.append_, run_underlying ht, sizeOf, typeInfo, hi, Builtin.lenOf, Builtin.firstCells, hnc, storeCells, loadCells, loadCellsFrom]

/-- Values that lie in memory, a cell each. -/
def LS (w : World) (news : List Value) (a : Option Addr) : Prop := news.length = 0 ∨ ∃ b o, a = some ⟨b, o, none⟩ ∧ ∀ j u, news[j]? = some u → w.cell? ⟨b, o + j, none⟩ = some u

/-- Values, in memory or none, put behind what is owned: an operation of an ordered list. -/
theorem wpList_append_vals {P : Program} {w : World} {ops : Array Oper} {rest : List Oper} {o : Oper} {a : Act} {Q : Exit → Act → World → Prop} (hgd : o.guard = none) (s x : Operand) (t : TypeId)
    (ho : o.op = .call { callee := .builtin .append, args := #[s, x], argTypes := #[t, t] })
    (w0 : World) (hE : Ex w0 w) (e : TypeId) (i : TypeInfo) (z : Value) (bytes : Nat) (ht : P.underlying t = some (.slice e)) (hi : P.info? e = some i) (hz : i.zero = some z) (hsize : i.size = 1) (hby : i.bytes = bytes) (hzs : z.cells.size = 1) (hb64 : bytes ≤ 64)
    (v : Value) (n : Nat) (xs : List Value) (hs : a.eval s = v) (hown : w.ownsRow w0.heap.size e 1 v n xs)
    (pa : Option Addr) (pc m : Nat) (news : List Value) (hx : a.eval x = .slice pa m pc) (hm : news.length = m) (hL : LS w news pa) (h1 : ∀ u ∈ news, u.oneCell' = true)
    (h63 : n + m ≤ 1000000)
    (h : ∀ v' w', w'.ownsRow w0.heap.size e 1 v' (n + m) (xs ++ news) → w.grownBy w' v.ownBlock → Ex w0 w' → wpList P ops Q rest (a.put o.dst v') w') :
    wpList P ops Q (o :: rest) a w := by
  by_cases h0 : m = 0
  · subst h0
    have hn : news = [] := List.length_eq_zero_iff.mp hm
    subst hn
    refine wpList_plain hgd fun K hK => ?_
    have hrun := run_append_zero (P := P) (w := w) w0.heap.size t o.type e i 1 ht hi v n xs hown pa pc
    unfold Oper.wp
    simp [execOp, ho, resolve, invoke, builtin, hs, hx, hrun, Result.andThen]
    exact hK _ _ (h v w (by simpa using hown) (grown_same _ _) hE)
  · rcases hL with hL | ⟨b, of, rfl, hc⟩
    · omega
    · refine wpList_append_own w hgd s x t ho w0.heap.size e i z 1 bytes ht hi hz hsize hby hzs (by omega) v n xs hs hown ⟨b, of, none⟩ m pc news hx (by omega) ?_ h1 (by unfold maxLen; omega) (by
        have : (n + m) * bytes ≤ 1000000 * 64 := Nat.mul_le_mul h63 hb64
        omega) hE.size fun v' w' h2 h3 _ => h v' w' h2 h3 (ex_grow hE h3 (row_own hown))
      intro j u hu
      rw [Go.WideShapes.add_plain]
      exact hc j u hu

theorem LS_texts {w : World} {p : List ByteArray} {a : Option Addr} (h : XA w 0 p a) : LS w (p.map Value.string) a := by
  rcases h with h | ⟨b, o, e, _, hc⟩
  · exact Or.inl (by simpa using h)
  · refine Or.inr ⟨b, o, e, fun j u hu => ?_⟩
    rw [List.getElem?_map] at hu
    cases hj : p[j]? with
    | none => rw [hj] at hu; simp at hu
    | some t =>
      have hjl : j < p.length := by
        rcases Nat.lt_or_ge j p.length with h | h
        · exact h
        · rw [List.getElem?_eq_none h] at hj; cases hj
      rw [hc j hjl]
      rw [hj] at hu
      simp only [List.getD, hj, Option.getD_some]
      exact hu
theorem one_texts {p : List ByteArray} : ∀ u ∈ p.map Value.string, u.oneCell' = true := fun u hu => by obtain ⟨_, _, rfl⟩ := List.mem_map.mp hu; rfl

/-- Texts that are owned, as texts in memory. -/
theorem own_texts {w : World} {base n : Nat} {e : TypeId} {v : Value} {p : List ByteArray} (h : w.ownsRow base e 1 v n (p.map Value.string)) (hn : n = p.length) : ∃ a c, v = .slice a p.length c ∧ XA w base p a := by
  subst hn
  obtain ⟨_, ⟨rfl, h0⟩ | ⟨g, cap, cur, rfl, hb, hg, hnc, _, _, ht⟩⟩ := id h
  · refine ⟨none, 0, ?_, Or.inl h0⟩
    rw [h0]
  · refine ⟨_, _, rfl, Or.inr ⟨g, 0, rfl, hb, fun i hi => ?_⟩⟩
    rw [World.ownsRow.cellAt h (0 + i) (by omega)]
    simp [List.getD, hi]

/-- Names are words, none twice. -/
def uniqB (ns : List ByteArray) : Bool := (List.range ns.length).all fun i => wordB (ns.getD i ⟨#[]⟩) && !hasB (ns.take i) (ns.getD i ⟨#[]⟩)
def uniqAt (ns : List ByteArray) (i : Nat) : Bool := wordB (ns.getD i ⟨#[]⟩) && !hasB (ns.take i) (ns.getD i ⟨#[]⟩)
theorem uniqB_no {ns : List ByteArray} {i : Nat} (h : i < ns.length) (hb : uniqAt ns i = false) : uniqB ns = false := by
  cases hn : uniqB ns with
  | false => rfl
  | true =>
    simp only [uniqB, List.all_eq_true, List.mem_range] at hn
    have := hn i h
    rw [show (wordB (ns.getD i ⟨#[]⟩) && !hasB (ns.take i) (ns.getD i ⟨#[]⟩)) = false from hb] at this; cases this
theorem uniqB_yes {ns : List ByteArray} (h : ∀ i, i < ns.length → uniqAt ns i = true) : uniqB ns = true := by
  simp only [uniqB, List.all_eq_true, List.mem_range]
  exact h

/-- A binding is ok. -/
def kindB (fs : List PM) (rec : List ByteArray → BD → TM → Bool) (ns : List ByteArray) (k : Int) (nm : List ByteArray) (fn : ByteArray) (ts : TM) (tb : BD) (tz : TM) (eb : BD) (ez : TM) : Bool :=
  if k = 1 then decide (blen tb + tlen tz + blen eb + tlen ez = 0) && (decide (fn.size = 0) && (decide (nm.length = 1) && decide (tlen ts = 1)))
  else if k = 2 then decide (blen tb + tlen tz + blen eb + tlen ez = 0) && ((arityR fs fn).2.2 && (decide ((arityR fs fn).1 = tlen ts) && decide ((arityR fs fn).2.1 = nm.length)))
  else if k = 3 then decide (fn.size = 0) && (decide (tlen ts = 1) && (rec ns tb tz && (rec ns eb ez && (decide (tlen tz = nm.length) && decide (tlen ez = nm.length)))))
  else false
def bindB (fs : List PM) (rec : List ByteArray → BD → TM → Bool) (ns : List ByteArray) (k : Int) (nm : List ByteArray) (fn : ByteArray) (ts : TM) (tb : BD) (tz : TM) (eb : BD) (ez : TM) : Bool :=
  (decide (nm.length ≤ 60) && termsB ns ts) && (uniqB nm && kindB fs rec ns k nm fn ts tb tz eb ez)

/-- All names behind so many bindings. -/
def nsAt (ns : List ByteArray) (b : BD) : Nat → List ByteArray
  | 0 => ns
  | i + 1 => nsAt ns b i ++ bnames b i
def bindAt (fs : List PM) (rec : List ByteArray → BD → TM → Bool) (ns : List ByteArray) (b : BD) (i : Nat) : Bool := bindB fs rec (nsAt ns b i) (bkind b i) (bnames b i) (bfn b i) (bterms b i) (bthen b i) (btsay b i) (belse b i) (besay b i)

/-- A body is ok, at most so deep. -/
def bodyB (fs : List PM) : Nat → List ByteArray → BD → TM → Bool
  | 0, _, _, _ => false
  | d + 1, ns, b, z => decide (blen b ≤ 400) && ((List.range (blen b)).all (fun i => bindAt fs (bodyB fs d) ns b i) && termsB (nsAt ns b (blen b)) z)

theorem bodyB_len {fs : List PM} {d : Nat} {ns : List ByteArray} {b : BD} {z : TM} (h : 400 < blen b) : bodyB fs (d + 1) ns b z = false := by simp [bodyB, show ¬ blen b ≤ 400 by omega]
theorem bodyB_no {fs : List PM} {d i : Nat} {ns : List ByteArray} {b : BD} {z : TM} (h : i < blen b) (hb : bindAt fs (bodyB fs d) ns b i = false) : bodyB fs (d + 1) ns b z = false := by
  have : (List.range (blen b)).all (fun i => bindAt fs (bodyB fs d) ns b i) = false := by
    rw [List.all_eq_false]
    exact ⟨i, List.mem_range.2 h, by rw [hb]; simp⟩
  simp [bodyB, this]
theorem bodyB_end {fs : List PM} {d : Nat} {ns : List ByteArray} {b : BD} {z : TM} (h1 : blen b ≤ 400) (h : ∀ i, i < blen b → bindAt fs (bodyB fs d) ns b i = true) : bodyB fs (d + 1) ns b z = termsB (nsAt ns b (blen b)) z := by
  have : (List.range (blen b)).all (fun i => bindAt fs (bodyB fs d) ns b i) = true := by
    rw [List.all_eq_true]
    intro i hi
    exact h i (List.mem_range.1 hi)
  simp only [bodyB, this, h1, decide_true, Bool.true_and]
theorem bind_names {fs : List PM} {d i : Nat} {ns : List ByteArray} {b : BD} (h : bindAt fs (bodyB fs d) ns b i = true) : (bnames b i).length ≤ 60 := by
  simp only [bindAt, bindB, Bool.and_eq_true, decide_eq_true_eq] at h
  exact h.1.1

/-- All lists are of a length that can be counted. -/
def BSm : BD → Prop
  | .nil => True
  | .node _ _ _ _ .nil => True
  | .node _ _ (_, ns, _, ts, tz, ez) tb (.node _ _ _ eb r) => ns.length ≤ 1000000000 ∧ tlen ts ≤ 1000000000 ∧ TSm ts ∧ blen tb ≤ 1000000000 ∧ BSm tb ∧ tlen tz ≤ 1000000000 ∧ TSm tz ∧ blen eb ≤ 1000000000 ∧ BSm eb ∧ tlen ez ≤ 1000000000 ∧ TSm ez ∧ BSm r
theorem BSm_at : ∀ {f : BD}, BSm f → ∀ i, i < blen f → (bnames f i).length ≤ 1000000000 ∧ tlen (bterms f i) ≤ 1000000000 ∧ blen (bthen f i) ≤ 1000000000 ∧ BSm (bthen f i) ∧ tlen (btsay f i) ≤ 1000000000 ∧ blen (belse f i) ≤ 1000000000 ∧ BSm (belse f i) ∧ tlen (besay f i) ≤ 1000000000
  | .nil, _, i, h => by simp [blen] at h
  | .node _ _ _ _ .nil, _, i, h => by simp [blen] at h
  | .node _ _ (_, _, _, _, _, _) _ (.node _ _ _ _ r), hs, 0, _ => ⟨hs.1, hs.2.1, hs.2.2.2.1, hs.2.2.2.2.1, hs.2.2.2.2.2.1, hs.2.2.2.2.2.2.2.1, hs.2.2.2.2.2.2.2.2.1, hs.2.2.2.2.2.2.2.2.2.1⟩
  | .node _ _ (_, _, _, _, _, _) _ (.node _ _ _ _ r), hs, i + 1, h => BSm_at hs.2.2.2.2.2.2.2.2.2.2.2 i (by simp only [blen] at h; omega)

end Go.Proofs.YtgpdnoghlommeaaGreatDoor
