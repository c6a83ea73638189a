/- Walks: KindTerm by the specification. Walks: a type of the laws turned into one of the program. Walks: numbers copied, compared and written over; types gone through by the exact laws. Cells of a block, set one behind the other. -/
import Derived.Test.YtldbmlojgakieaaDoorGIS2
import Derived.Test.YtldbmlojgakieaaDoorGBD4
import Derived.Test.YtldbmlojgakieaaDoorGKT2
import Derived.Test.YtldbmlojgakieaaDoorGW7
namespace Go.Proofs.YtldbmlojgakieaaDoor

open Go.RowKit Go.Deep Go.Maps Go.WideMaps

attribute [local go_sem ↓] Go.wp_at_zero Go.wp_at_succ

theorem tok_leaf {k n : Int} {s : ByteArray} {p : List Int} {l : Nat} (h : tokB k n s p l = true) (hk : k = 1 ∨ k = 2) : l = 0 := by
  rcases hk with rfl | rfl
  · simp only [tokB_1, Bool.and_eq_true, decide_eq_true_eq] at h; exact h.2.2.1
  · simp only [tokB_2, Bool.and_eq_true, decide_eq_true_eq] at h; exact h.2.2

theorem sterm_all (B : Nat) (S : Nat → Prop) (ns : List ByteArray) (tl : F) (na ta : Option Addr) (nc tc : Nat) (hnl : ns.length ≤ 1000000000) (hlen : len tl = ns.length) (hft : fitAll tl = true) : ∀ (d : Nat) (k n : Int) (s : ByteArray) (p : List Int) (pa : Option Addr) (pc : Nat) (f : TM) (a : Option Addr) (c : Nat) (w : World),
    w.cell? ⟨B, 0, none⟩ = some (.slice na ns.length nc) → w.cell? ⟨B, 1, none⟩ = some (.slice ta (len tl) tc) → XA w 0 ns na → SA w S tl ta → (∀ b, S b → b < w.heap.size) → p.length ≤ 1000000000 → PA w 0 p pa → MA w 0 f a → tlen f ≤ 100000000 → TSm f → termB ns d k n s p f = true →
    Calls Tryd.prog 18 #[.pointer (some ⟨B, 0, none⟩), .agg #[.int .i64 k, .int .i64 n, .string s, .slice pa p.length pc, .slice a (tlen f) c]] w (StP S (oneT (setAll nilK ns tl ns.length) k s p (evT (setAll nilK ns tl ns.length) f)) w) := by
  have HL := setAll_fit (L := nilK) (fun _ => rfl) (ns := ns) hft ns.length (by omega)
  intro d
  induction d with
  | zero => intro k n s p pa pc f a c w _ _ _ _ _ _ _ _ _ _ h; simp [termB] at h
  | succ d ih =>
    intro k n s p pa pc f a c w hB1 hB2 hX hV hS hp hP hM hl hsm ht
    rw [termB_tok] at ht
    simp only [Bool.and_eq_true, Bool.or_eq_true, Bool.not_eq_true', decide_eq_false_iff_not] at ht
    obtain ⟨t1, t2, t3⟩ := ht
    refine sterm_by B S ns tl na ta nc tc k n s p pa pc f a c w hnl hlen hB1 hB2 hX hV hS hp hP hM hl (tok_shape t1).2.2 (tok_leaf t1) (fun e => t2.resolve_left fun h => h e) (evt_fit HL ns d f t3) fun j hj pa' pc' a' c' w' hx hP' hM' => ?_
    obtain ⟨g1, g2, g3⟩ := TSm_kid hsm j hj
    have hkj : kidB ns d f j = true := by
      simp only [kidsB, List.all_eq_true] at t3
      exact t3 j (List.mem_range.2 hj)
    have hl2 : tlen (tkid f j) ≤ 2 := by
      cases d with
      | zero => simp [kidB, termB] at hkj
      | succ d =>
        rw [kidB, termB_tok] at hkj
        simp only [Bool.and_eq_true] at hkj
        exact (tok_shape hkj.1).2.1
    exact ih _ _ _ _ pa' pc' _ a' c' w' (hx.at hB1) (hx.at hB2) (XA_below hX hx) (SA_ex hV hx) (fun b hb => Nat.lt_of_lt_of_le (hS b hb) hx.size) g1 hP' hM' (by omega) g3 hkj

set_option maxRecDepth 100000 in
set_option maxHeartbeats 4000000 in
theorem sKindTerm_any (ns : List ByteArray) (na : Option Addr) (nc : Nat) (tl : F) (ta : Option Addr) (tc : Nat) (k n : Int) (s : ByteArray) (p : List Int) (pa : Option Addr) (pc : Nat) (f : TM) (a : Option Addr) (c : Nat) (w : World)
    (hX : XA w 0 ns na) (hnl : ns.length ≤ 1000000000) (hnc : ns.length ≤ nc) (hV : TA w 0 tl ta) (hp : p.length ≤ 1000000000) (hP : PA w 0 p pa) (hM : MA w 0 f a) (hl : tlen f ≤ 100000000) (hsm : TSm f) :
    Calls Tryd.prog 5 #[.slice na ns.length nc, .slice ta (len tl) tc, .agg #[.int .i64 k, .int .i64 n, .string s, .slice pa p.length pc, .slice a (tlen f) c]] w (KtP (kindR ns tl k n s p f) w) := by
  have X : Hid (∀ w', Ex w w' → XA w' 0 ns na) := fun w' h => XA_below hX h
  have V : Hid (∀ w', Ex w w' → TA w' 0 tl ta) := fun w' h => TA_below hV h
  have V0 : Hid (SA w (fun b => b < w.heap.size) tl ta) := SA_mono hV fun b hb _ => hb
  have P : Hid (∀ w', Ex w w' → PA w' 0 p pa) := fun w' h => PA_below hP h
  have M : Hid (∀ w', Ex w w' → MA w' 0 f a) := fun w' h => MA_below hM h
  have N : Hid (Ex w (((w.alloc (.cells #[.int .i64 k, .int .i64 n, .string s, .slice pa p.length pc, .slice a (tlen f) c] 28)).alloc (.cells #[.slice none 0 0] 32)).alloc (.cells #[.slice none 0 0] 32))) := ((Ex.new _ _).alloc _).alloc _
  have C : Hid (∀ w', Ex (((w.alloc (.cells #[.int .i64 k, .int .i64 n, .string s, .slice pa p.length pc, .slice a (tlen f) c] 28)).alloc (.cells #[.slice none 0 0] 32)).alloc (.cells #[.slice none 0 0] 32)) w' → w'.cell? ⟨w.heap.size, 0, none⟩ = some (.int .i64 k) ∧ w'.cell? ⟨w.heap.size, 1, none⟩ = some (.int .i64 n) ∧ w'.cell? ⟨w.heap.size, 2, none⟩ = some (.string s) ∧ w'.cell? ⟨w.heap.size, 3, none⟩ = some (.slice pa p.length pc) ∧ w'.cell? ⟨w.heap.size, 4, none⟩ = some (.slice a (tlen f) c) ∧ w'.heap[w.heap.size + 1]? = some (.cells #[.slice none 0 0] 32 (0, 0)) ∧ w'.cell? ⟨w.heap.size + 2, 0, none⟩ = some (.slice none 0 0)) := fun w' h => ⟨h.at (((Ex.new _ _).alloc _).at (by simp)), h.at (((Ex.new _ _).alloc _).at (by simp)), h.at (((Ex.new _ _).alloc _).at (by simp)), h.at (((Ex.new _ _).alloc _).at (by simp)), h.at (((Ex.new _ _).alloc _).at (by simp)), h.blk ((Ex.new _ _).blk (heap_alloc_at _ _ (by simp only [World.size_alloc]))), h.at (cell_of_one (heap_alloc_at _ _ (by simp only [World.size_alloc])))⟩
  have LT : Hid (∀ w', Ex w w' → Calls Tryd.prog 14 #[.slice na ns.length nc, .agg #[.int .i64 k, .int .i64 n, .string s, .slice pa p.length pc, .slice a (tlen f) c], .int .i64 8] w' fun e w'' => e = .returned (.bool (termB ns 8 k n s p f)) ∧ Ex w' w'') := fun w' h => l12Term_any ns na nc hnl 8 k n s p pa pc f a c w' (by omega) (XA_below hX h) (PA_below hP h) (MA_below hM h)
  have SM : Hid (p.length ≤ 1000000000 ∧ tlen f ≤ 100000000 ∧ TSm f) := ⟨hp, hl, hsm⟩
  clear hX hV hP hM hl hsm hp
  obtain ⟨R, hR⟩ : ∃ R, R = kindR ns tl k n s p f := ⟨_, rfl⟩
  have RR : Hid (R = kindR ns tl k n s p f) := hR
  rw [← hR]
  clear hR
  have ends : Hid (∀ W, Ex w W → R = (.nil, false) → KtP R w (.returned (.tuple #[.agg #[.slice none 0 0], .bool false])) W) := fun W hW h => by rw [h]; exact ⟨none, 0, rfl, Or.inl rfl, hW⟩
  by_cases hlen : ns.length = len tl
  · have e15 : ((ns.length : Int) != (len tl : Int)) = false := by simp [hlen]
    have LE : Hid (ns.length = len tl) := hlen
    clear hlen
    by_cases h60 : 60 < ns.length
    · have d1 : decide ((60 : Int) < (ns.length : Int)) = true := decide_eq_true (by omega)
      have HR : Hid (R = (.nil, false)) := RR.out.trans (kindR_names (by rw [namesB, decide_eq_false (by omega)]; rfl))
      go_enter Tryd.func5, Tryd.ntmps5
      go_wp2_with fail
      exact bodyPost_ret (v := .tuple #[.agg #[.slice none 0 0], .bool false]) (by simp [results, Tryd.results5, go_sem]) rfl (ends.out _ N.out HR.out)
    have d1 : decide ((60 : Int) < (ns.length : Int)) = false := decide_eq_false (by omega)
    have NB : Hid (namesB ns = uniqB ns) := by show _ = _; rw [namesB, decide_eq_true (by omega)]; rfl
    obtain ⟨tb, htb⟩ : ∃ b, termB ns 8 k n s p f = b := ⟨_, rfl⟩
    have HTB : Hid (termB ns 8 k n s p f = tb) := htb
    rw [htb] at LT
    clear htb
    have c0 : (((w.alloc (.cells #[.int .i64 k, .int .i64 n, .string s, .slice pa p.length pc, .slice a (tlen f) c] 28)).alloc (.cells #[.slice none 0 0] 32)).alloc (.cells #[.slice none 0 0] 32)).cell? ⟨w.heap.size, 0, none⟩ = some (.int .i64 k) := (C.out _ (Ex.refl _)).1
    have c1 : (((w.alloc (.cells #[.int .i64 k, .int .i64 n, .string s, .slice pa p.length pc, .slice a (tlen f) c] 28)).alloc (.cells #[.slice none 0 0] 32)).alloc (.cells #[.slice none 0 0] 32)).cell? ⟨w.heap.size, 1, none⟩ = some (.int .i64 n) := (C.out _ (Ex.refl _)).2.1
    have c2 : (((w.alloc (.cells #[.int .i64 k, .int .i64 n, .string s, .slice pa p.length pc, .slice a (tlen f) c] 28)).alloc (.cells #[.slice none 0 0] 32)).alloc (.cells #[.slice none 0 0] 32)).cell? ⟨w.heap.size, 2, none⟩ = some (.string s) := (C.out _ (Ex.refl _)).2.2.1
    have c3 : (((w.alloc (.cells #[.int .i64 k, .int .i64 n, .string s, .slice pa p.length pc, .slice a (tlen f) c] 28)).alloc (.cells #[.slice none 0 0] 32)).alloc (.cells #[.slice none 0 0] 32)).cell? ⟨w.heap.size, 3, none⟩ = some (.slice pa p.length pc) := (C.out _ (Ex.refl _)).2.2.2.1
    have c4 : (((w.alloc (.cells #[.int .i64 k, .int .i64 n, .string s, .slice pa p.length pc, .slice a (tlen f) c] 28)).alloc (.cells #[.slice none 0 0] 32)).alloc (.cells #[.slice none 0 0] 32)).cell? ⟨w.heap.size, 4, none⟩ = some (.slice a (tlen f) c) := (C.out _ (Ex.refl _)).2.2.2.2.1
    go_enter Tryd.func5, Tryd.ntmps5
    go_wp2_with fail
    refine (LT.out _ N.out).mono ?_
    rintro e w1 ⟨rfl, hb1⟩
    have X1 : Hid (Ex (((w.alloc (.cells #[.int .i64 k, .int .i64 n, .string s, .slice pa p.length pc, .slice a (tlen f) c] 28)).alloc (.cells #[.slice none 0 0] 32)).alloc (.cells #[.slice none 0 0] 32)) w1) := hb1
    clear c0 c1 c2 c3 c4 hb1 LT
    obtain ⟨_, _, _, _, _, hr1, n1⟩ := C.out w1 X1.out
    have r0 := cell_of_one hr1
    have r2 := free_of_one hr1
    cases tb with
    | false =>
      have HR : Hid (R = (.nil, false)) := RR.out.trans (kindR_term HTB.out)
      go_wp2_with fail
      have s0 := World.cell?_setCell_same w1 ⟨w.heap.size + 1, 0, none⟩ (.slice none 0 0) r0
      exact bodyPost_ret (v := .tuple #[.agg #[.slice none 0 0], .bool false]) (by simp [results, Tryd.results5, go_sem, s0]) rfl (ends.out _ ((N.out.trans X1.out).set (by show w.heap.size ≤ w.heap.size + 1; omega) _) HR.out)
    | true =>
      clear r0 r2 hr1 n1
      go_wp2_with fail
      go_loopw [9] (fun i wr => ∃ (j : Nat), j ≤ ns.length ∧ i = .int .i64 j ∧ (∀ l, l < j → uniqAt ns l = true) ∧ (∀ l, l < j → fits 4 (kid tl l) = true) ∧ Ex (((w.alloc (.cells #[.int .i64 k, .int .i64 n, .string s, .slice pa p.length pc, .slice a (tlen f) c] 28)).alloc (.cells #[.slice none 0 0] 32)).alloc (.cells #[.slice none 0 0] 32)) wr) (fun i _ => ns.length - (intOf i).toNat)
      case atStart => exact ⟨0, by omega, rfl, fun j hj => by omega, fun j hj => by omega, X1.out⟩
      case round =>
        obtain ⟨j, hj, rfl, hall, hfit, hx⟩ := hrel
        have A : Hid (∀ l, l < j → uniqAt ns l = true) := hall
        have AF : Hid (∀ l, l < j → fits 4 (kid tl l) = true) := hfit
        have E : Hid (Ex (((w.alloc (.cells #[.int .i64 k, .int .i64 n, .string s, .slice pa p.length pc, .slice a (tlen f) c] 28)).alloc (.cells #[.slice none 0 0] 32)).alloc (.cells #[.slice none 0 0] 32)) wr) := hx
        clear hall hfit hx
        by_cases hlt : j < ns.length
        · obtain ⟨b, o, rfl, hbs, _, hc⟩ := XA_at (X.out wr (N.out.trans E.out)) (by omega)
          have ck := hc j hlt
          obtain ⟨b', o', rfl, _, hbs', hk'⟩ := TA_at (V.out wr (N.out.trans E.out)) (by have := LE.out; omega)
          obtain ⟨a1, c1, hc1, ht1⟩ := hk' j (by have := LE.out; omega)
          have T1 : Hid (∀ w', Ex wr w' → TA w' 0 (kid tl j) a1) := fun _ h => TA_below ht1 h
          have i2 : (j : Int) < (len tl : Int) := by have := LE.out; omega
          have i2n : j < len tl := by have := LE.out; omega
          have U : Hid (uniqAt ns j = true → ∀ l, l < j + 1 → uniqAt ns l = true) := fun h => upto_succ A.out h
          have UF : Hid (fits 4 (kid tl j) = true → ∀ l, l < j + 1 → fits 4 (kid tl l) = true) := fun h => upto_succ AF.out h
          have VN : Hid (uniqAt ns j = false → R = (.nil, false)) := fun h => RR.out.trans (kindR_names (NB.out.trans (uniqB_no hlt h)))
          have VF : Hid (fits 4 (kid tl j) = false → R = (.nil, false)) := fun h => RR.out.trans (kindR_fit (fitAll_no i2n h))
          have UA : Hid (uniqAt ns j = (wordB (ns.getD j ⟨#[]⟩) && !hasB (ns.take j) (ns.getD j ⟨#[]⟩))) := rfl
          have XT := fun w' (h : Ex w w') => XA_take (X.out w' h) j hj
          have LH : Hid (∀ w', Ex wr w' → ∀ c, Calls Tryd.prog 16 #[.slice (some ⟨b, o, none⟩) j c, .string (ns.getD j ⟨#[]⟩)] w' fun e w'' => e = .returned (.bool (hasB (ns.take j) (ns.getD j ⟨#[]⟩))) ∧ Ex w' w'') := fun w' h c => by
            have h3 := XT w' (N.out.trans (E.out.trans h))
            have := l12Has_any (ns.take j) (some ⟨b, o, none⟩) c (ns.getD j ⟨#[]⟩) w' (by omega) h3.1
            rw [h3.2] at this; exact this
          have TO : Hid (∀ w', Ex wr w' → Calls Tryd.prog 17 #[.agg #[.slice a1 (len (kid tl j)) c1]] w' fun e w'' => e = .returned (.bool (fits 4 (kid tl j))) ∧ Ex w' w'') := fun w' h => sTypeOk_any _ a1 c1 0 w' (T1.out w' h)
          have hjc : j ≤ nc := by omega
          clear XT hc hk' ht1
          obtain ⟨t, hte⟩ : ∃ t, ns.getD j ⟨#[]⟩ = t := ⟨_, rfl⟩
          obtain ⟨hh, hhe⟩ : ∃ hh, hasB (ns.take j) t = hh := ⟨_, rfl⟩
          obtain ⟨z, hz⟩ : ∃ z, fits 4 (kid tl j) = z := ⟨_, rfl⟩
          rw [hte] at ck UA LH
          rw [hhe] at UA LH
          rw [hz] at TO UF VF
          clear hte hhe hz
          have KS : Hid (∀ w', Ex wr w' → (Ex wr w' ∧ w'.cell? ⟨b, o + j, none⟩ = some (.string t) ∧ w'.cell? ⟨b', o' + j, none⟩ = some (.slice a1 (len (kid tl j)) c1))) := fun w' h => ⟨h, h.at ck, h.at hc1⟩
          have FIN : Hid (∀ w', Ex wr w' → w'.cell? ⟨w.heap.size + 2, 0, none⟩ = some (.slice none 0 0) ∧ w'.cell? ⟨w.heap.size + 1, 0, none⟩ = some (.slice none 0 0) ∧ w'.frozen? ⟨w.heap.size + 1, 0, none⟩ = false ∧ Ex w w') := fun w' h => ⟨(C.out w' (E.out.trans h)).2.2.2.2.2.2, cell_of_one (C.out w' (E.out.trans h)).2.2.2.2.2.1, free_of_one (C.out w' (E.out.trans h)).2.2.2.2.2.1, N.out.trans (E.out.trans h)⟩
          go_wp2_with fail
          clear ck hc1
          refine wp_region_held_drew (S := fun w' => Ex wr w' ∧ w'.cell? ⟨b, o + j, none⟩ = some (.string t) ∧ w'.cell? ⟨b', o' + j, none⟩ = some (.slice a1 (len (kid tl j)) c1)) (by kernel_rfl) (KS.out _ (Ex.refl _).drew) (fun hHeld => ?_)
          refine wpAnyH_take (i := 0) (v := ?_) rfl (by kernel_rfl) (by kernel_rfl) (by kernel_rfl) (fun _ _ _ h => h) (Or.inl ⟨by rfl, ?_⟩) (by assumption) ?_
          rotate_left
          · (intro w' hSw; (try dsimp only at hSw); go_simp) <;> with_reducible rfl
          change wpAnyH Tryd.prog _ _ _ _ _ _ (Act.put _ (some 37) _) _
          (try simp only [Act.put, List.setIfInBounds_toArray, List.set_cons_zero, List.set_cons_succ])
          refine wpAnyH_take (i := 1) (v := ?_) rfl (by kernel_rfl) (by kernel_rfl) (by kernel_rfl) (fun _ _ _ h => h) (Or.inl ⟨by rfl, ?_⟩) (by assumption) ?_
          rotate_left
          · (intro w' hSw; (try dsimp only at hSw); go_simp) <;> with_reducible rfl
          change wpAnyH Tryd.prog _ _ _ _ _ _ (Act.put _ (some 38) _) _
          (try simp only [Act.put, List.setIfInBounds_toArray, List.set_cons_zero, List.set_cons_succ])
          refine wpAnyH_take (i := 2) (v := ?_) rfl (by kernel_rfl) (by kernel_rfl) (by kernel_rfl) (fun _ _ _ h => h) (Or.inl ⟨by rfl, ?_⟩) (by assumption) ?_
          rotate_left
          · (intro w' hSw; (try dsimp only at hSw); go_simp) <;> with_reducible rfl
          change wpAnyH Tryd.prog _ _ _ _ _ _ (Act.put _ (some 39) _) _
          (try simp only [Act.put, List.setIfInBounds_toArray, List.set_cons_zero, List.set_cons_succ])
          refine wpAnyH_take (i := 3) (v := ?_) rfl (by kernel_rfl) (by kernel_rfl) (by kernel_rfl) (fun _ _ _ h => h) (Or.inl ⟨by rfl, ?_⟩) (by assumption) ?_
          rotate_left
          · (intro w' hSw; (try dsimp only at hSw); go_simp) <;> with_reducible rfl
          change wpAnyH Tryd.prog _ _ _ _ _ _ (Act.put _ (some 40) _) _
          (try simp only [Act.put, List.setIfInBounds_toArray, List.set_cons_zero, List.set_cons_succ])
          refine wpAnyH_ready (rs := [4]) (by kernel_rfl) (by simp) ?_
          refine AllReadyH.cons (i := 4) rfl (fun K hK => ?_) AllReadyH.nil
          go_simp
          refine (l12Word_any t _).mono ?_
          rintro e w2 ⟨rfl, hb2⟩
          have hx2 := Ex.trans (And.left hHeld) hb2
          clear hHeld
          cases hw : wordB t with
          | false =>
            have HR : Hid (R = (.nil, false)) := VN.out (by rw [UA.out, hw]; rfl)
            go_wp2_with fail
            refine hK.out _ _ ?_ (fun hHeld => ?_)
            · exact KS.out _ hx2
            clear hK
            (try simp only [Act.put, List.setIfInBounds_toArray, List.set_cons_zero, List.set_cons_succ])
            refine wpAnyH_take (i := 5) (v := ?_) rfl (by kernel_rfl) (by kernel_rfl) (by kernel_rfl) (fun _ _ _ h => h) (Or.inl ⟨by rfl, ?_⟩) (by assumption) ?_
            rotate_left
            · (intro w' hSw; (try dsimp only at hSw); go_simp) <;> with_reducible rfl
            change wpAnyH Tryd.prog _ _ _ _ _ _ (Act.put _ (some 42) _) _
            (try simp only [Act.put, List.setIfInBounds_toArray, List.set_cons_zero, List.set_cons_succ])
            refine wpAnyH_take (i := 6) (v := ?_) rfl (by kernel_rfl) (by kernel_rfl) (by kernel_rfl) (fun _ _ _ h => h) (Or.inl ⟨by rfl, ?_⟩) (by assumption) ?_
            rotate_left
            · (intro w' hSw; (try dsimp only at hSw); go_simp) <;> with_reducible rfl
            change wpAnyH Tryd.prog _ _ _ _ _ _ (Act.put _ (some 43) _) _
            (try simp only [Act.put, List.setIfInBounds_toArray, List.set_cons_zero, List.set_cons_succ])
            refine wpAnyH_take (i := 7) (v := undef) rfl (by kernel_rfl) (by kernel_rfl) (by kernel_rfl) (fun _ _ _ h => h) (Or.inr ⟨by kernel_rfl, rfl⟩) (by assumption) ?_
            change wpAnyH Tryd.prog _ _ _ _ _ _ (Act.put _ (some 44) _) _
            (try simp only [Act.put, List.setIfInBounds_toArray, List.set_cons_zero, List.set_cons_succ])
            refine wpAnyH_take (i := 8) (v := undef) rfl (by kernel_rfl) (by kernel_rfl) (by kernel_rfl) (fun _ _ _ h => h) (Or.inr ⟨by kernel_rfl, rfl⟩) (by assumption) ?_
            change wpAnyH Tryd.prog _ _ _ _ _ _ (Act.put _ (some 45) _) _
            (try simp only [Act.put, List.setIfInBounds_toArray, List.set_cons_zero, List.set_cons_succ])
            refine wpAnyH_take (i := 9) (v := undef) rfl (by kernel_rfl) (by kernel_rfl) (by kernel_rfl) (fun _ _ _ h => h) (Or.inr ⟨by kernel_rfl, rfl⟩) (by assumption) ?_
            change wpAnyH Tryd.prog _ _ _ _ _ _ (Act.put _ (some 46) _) _
            (try simp only [Act.put, List.setIfInBounds_toArray, List.set_cons_zero, List.set_cons_succ])
            refine wpAnyH_take (i := 10) (v := undef) rfl (by kernel_rfl) (by kernel_rfl) (by kernel_rfl) (fun _ _ _ h => h) (Or.inr ⟨by kernel_rfl, rfl⟩) (by assumption) ?_
            change wpAnyH Tryd.prog _ _ _ _ _ _ (Act.put _ (some 47) _) _
            (try simp only [Act.put, List.setIfInBounds_toArray, List.set_cons_zero, List.set_cons_succ])
            refine wpAnyH_take (i := 11) (v := undef) rfl (by kernel_rfl) (by kernel_rfl) (by kernel_rfl) (fun _ _ _ h => h) (Or.inr ⟨by kernel_rfl, rfl⟩) (by assumption) ?_
            change wpAnyH Tryd.prog _ _ _ _ _ _ (Act.put _ (some 48) _) _
            (try simp only [Act.put, List.setIfInBounds_toArray, List.set_cons_zero, List.set_cons_succ])
            refine wpAnyH_take (i := 12) (v := undef) rfl (by kernel_rfl) (by kernel_rfl) (by kernel_rfl) (fun _ _ _ h => h) (Or.inr ⟨by kernel_rfl, rfl⟩) (by assumption) ?_
            change wpAnyH Tryd.prog _ _ _ _ _ _ (Act.put _ (some 49) _) _
            (try simp only [Act.put, List.setIfInBounds_toArray, List.set_cons_zero, List.set_cons_succ])
            refine wpAnyH_take (i := 13) (v := undef) rfl (by kernel_rfl) (by kernel_rfl) (by kernel_rfl) (fun _ _ _ h => h) (Or.inr ⟨by kernel_rfl, rfl⟩) (by assumption) ?_
            change wpAnyH Tryd.prog _ _ _ _ _ _ (Act.put _ (some 50) _) _
            (try simp only [Act.put, List.setIfInBounds_toArray, List.set_cons_zero, List.set_cons_succ])
            refine wpAnyH_take (i := 14) (v := undef) rfl (by kernel_rfl) (by kernel_rfl) (by kernel_rfl) (fun _ _ _ h => h) (Or.inr ⟨by kernel_rfl, rfl⟩) (by assumption) ?_
            change wpAnyH Tryd.prog _ _ _ _ _ _ (Act.put _ (some 51) _) _
            (try simp only [Act.put, List.setIfInBounds_toArray, List.set_cons_zero, List.set_cons_succ])
            refine wpAnyH_take (i := 15) (v := ?_) rfl (by kernel_rfl) (by kernel_rfl) (by kernel_rfl) (fun _ _ _ h => h) (Or.inl ⟨by rfl, ?_⟩) (by assumption) ?_
            rotate_left
            · (intro w' hSw; (try dsimp only at hSw); go_simp) <;> with_reducible rfl
            change wpAnyH Tryd.prog _ _ _ _ _ _ (Act.put _ (some 52) _) _
            (try simp only [Act.put, List.setIfInBounds_toArray, List.set_cons_zero, List.set_cons_succ])
            refine wpAnyH_take (i := 16) (v := ?_) rfl (by kernel_rfl) (by kernel_rfl) (by kernel_rfl) (fun _ _ _ h => h) (Or.inl ⟨by rfl, ?_⟩) (by assumption) ?_
            rotate_left
            · (intro w' hSw; (try dsimp only at hSw); go_simp) <;> with_reducible rfl
            change wpAnyH Tryd.prog _ _ _ _ _ _ (Act.put _ (some 53) _) _
            (try simp only [Act.put, List.setIfInBounds_toArray, List.set_cons_zero, List.set_cons_succ])
            refine wpAnyH_take (i := 17) (v := undef) rfl (by kernel_rfl) (by kernel_rfl) (by kernel_rfl) (fun _ _ _ h => h) (Or.inr ⟨by kernel_rfl, rfl⟩) (by assumption) ?_
            change wpAnyH Tryd.prog _ _ _ _ _ _ (Act.put _ (some 54) _) _
            (try simp only [Act.put, List.setIfInBounds_toArray, List.set_cons_zero, List.set_cons_succ])
            refine wpAnyH_take (i := 18) (v := undef) rfl (by kernel_rfl) (by kernel_rfl) (by kernel_rfl) (fun _ _ _ h => h) (Or.inr ⟨by kernel_rfl, rfl⟩) (by assumption) ?_
            change wpAnyH Tryd.prog _ _ _ _ _ _ (Act.put _ (some 55) _) _
            (try simp only [Act.put, List.setIfInBounds_toArray, List.set_cons_zero, List.set_cons_succ])
            refine wpAnyH_take (i := 19) (v := undef) rfl (by kernel_rfl) (by kernel_rfl) (by kernel_rfl) (fun _ _ _ h => h) (Or.inr ⟨by kernel_rfl, rfl⟩) (by assumption) ?_
            change wpAnyH Tryd.prog _ _ _ _ _ _ (Act.put _ (some 56) _) _
            (try simp only [Act.put, List.setIfInBounds_toArray, List.set_cons_zero, List.set_cons_succ])
            refine wpAnyH_take (i := 20) (v := undef) rfl (by kernel_rfl) (by kernel_rfl) (by kernel_rfl) (fun _ _ _ h => h) (Or.inr ⟨by kernel_rfl, rfl⟩) (by assumption) ?_
            change wpAnyH Tryd.prog _ _ _ _ _ _ (Act.put _ (some 57) _) _
            (try simp only [Act.put, List.setIfInBounds_toArray, List.set_cons_zero, List.set_cons_succ])
            refine wpAnyH_take (i := 21) (v := undef) rfl (by kernel_rfl) (by kernel_rfl) (by kernel_rfl) (fun _ _ _ h => h) (Or.inr ⟨by kernel_rfl, rfl⟩) (by assumption) ?_
            change wpAnyH Tryd.prog _ _ _ _ _ _ (Act.put _ (some 58) _) _
            (try simp only [Act.put, List.setIfInBounds_toArray, List.set_cons_zero, List.set_cons_succ])
            refine wpAnyH_take (i := 22) (v := undef) rfl (by kernel_rfl) (by kernel_rfl) (by kernel_rfl) (fun _ _ _ h => h) (Or.inr ⟨by kernel_rfl, rfl⟩) (by assumption) ?_
            change wpAnyH Tryd.prog _ _ _ _ _ _ (Act.put _ (some 59) _) _
            (try simp only [Act.put, List.setIfInBounds_toArray, List.set_cons_zero, List.set_cons_succ])
            refine wpAnyH_take (i := 23) (v := ?_) rfl (by kernel_rfl) (by kernel_rfl) (by kernel_rfl) (fun _ _ _ h => h) (Or.inl ⟨by rfl, ?_⟩) (by assumption) ?_
            rotate_left
            · (intro w' hSw; (try dsimp only at hSw); go_simp) <;> with_reducible rfl
            change wpAnyH Tryd.prog _ _ _ _ _ _ (Act.put _ (some 60) _) _
            (try simp only [Act.put, List.setIfInBounds_toArray, List.set_cons_zero, List.set_cons_succ])
            obtain ⟨n1, r0, r2, xf⟩ := FIN.out _ hx2
            refine wpAnyH_done (by kernel_rfl) ?_ _
            go_wp2_with fail
            have s0 := World.cell?_setCell_same w2 ⟨w.heap.size + 1, 0, none⟩ (.slice none 0 0) r0
            exact bodyPost_ret (v := .tuple #[.agg #[.slice none 0 0], .bool false]) (by simp [results, Tryd.results5, go_sem, s0]) rfl (ends.out _ (xf.set (by show w.heap.size ≤ w.heap.size + 1; omega) _) HR.out)
          | true =>
            have HW : Hid (wordB t = true) := hw
            clear hw
            go_wp2_with fail
            refine hK.out _ _ ?_ (fun hHeld => ?_)
            · exact KS.out _ hx2
            clear hK
            (try simp only [Act.put, List.setIfInBounds_toArray, List.set_cons_zero, List.set_cons_succ])
            refine wpAnyH_take (i := 5) (v := ?_) rfl (by kernel_rfl) (by kernel_rfl) (by kernel_rfl) (fun _ _ _ h => h) (Or.inl ⟨by rfl, ?_⟩) (by assumption) ?_
            rotate_left
            · (intro w' hSw; (try dsimp only at hSw); go_simp) <;> with_reducible rfl
            change wpAnyH Tryd.prog _ _ _ _ _ _ (Act.put _ (some 42) _) _
            (try simp only [Act.put, List.setIfInBounds_toArray, List.set_cons_zero, List.set_cons_succ])
            refine wpAnyH_take (i := 6) (v := ?_) rfl (by kernel_rfl) (by kernel_rfl) (by kernel_rfl) (fun _ _ _ h => h) (Or.inl ⟨by rfl, ?_⟩) (by assumption) ?_
            rotate_left
            · (intro w' hSw; (try dsimp only at hSw); go_simp) <;> with_reducible rfl
            change wpAnyH Tryd.prog _ _ _ _ _ _ (Act.put _ (some 43) _) _
            (try simp only [Act.put, List.setIfInBounds_toArray, List.set_cons_zero, List.set_cons_succ])
            refine wpAnyH_take (i := 7) (v := ?_) rfl (by kernel_rfl) (by kernel_rfl) (by kernel_rfl) (fun _ _ _ h => h) (Or.inl ⟨by rfl, ?_⟩) (by assumption) ?_
            rotate_left
            · (intro w' hSw; (try dsimp only at hSw); go_simp) <;> with_reducible rfl
            change wpAnyH Tryd.prog _ _ _ _ _ _ (Act.put _ (some 44) _) _
            (try simp only [Act.put, List.setIfInBounds_toArray, List.set_cons_zero, List.set_cons_succ])
            refine wpAnyH_take (i := 8) (v := ?_) rfl (by kernel_rfl) (by kernel_rfl) (by kernel_rfl) (fun _ _ _ h => h) (Or.inl ⟨by rfl, ?_⟩) (by assumption) ?_
            rotate_left
            · (intro w' hSw; (try dsimp only at hSw); go_simp) <;> with_reducible rfl
            change wpAnyH Tryd.prog _ _ _ _ _ _ (Act.put _ (some 45) _) _
            (try simp only [Act.put, List.setIfInBounds_toArray, List.set_cons_zero, List.set_cons_succ])
            refine wpAnyH_take (i := 9) (v := ?_) rfl (by kernel_rfl) (by kernel_rfl) (by kernel_rfl) (fun _ _ _ h => h) (Or.inl ⟨by rfl, ?_⟩) (by assumption) ?_
            rotate_left
            · (intro w' hSw; (try dsimp only at hSw); go_simp) <;> with_reducible rfl
            change wpAnyH Tryd.prog _ _ _ _ _ _ (Act.put _ (some 46) _) _
            (try simp only [Act.put, List.setIfInBounds_toArray, List.set_cons_zero, List.set_cons_succ])
            refine wpAnyH_take (i := 10) (v := ?_) rfl (by kernel_rfl) (by kernel_rfl) (by kernel_rfl) (fun _ _ _ h => h) (Or.inl ⟨by rfl, ?_⟩) (by assumption) ?_
            rotate_left
            · (intro w' hSw; (try dsimp only at hSw); go_simp) <;> with_reducible rfl
            change wpAnyH Tryd.prog _ _ _ _ _ _ (Act.put _ (some 47) _) _
            (try simp only [Act.put, List.setIfInBounds_toArray, List.set_cons_zero, List.set_cons_succ])
            refine wpAnyH_take (i := 11) (v := ?_) rfl (by kernel_rfl) (by kernel_rfl) (by kernel_rfl) (fun _ _ _ h => h) (Or.inl ⟨by rfl, ?_⟩) (by assumption) ?_
            rotate_left
            · (intro w' hSw; (try dsimp only at hSw); go_simp) <;> with_reducible rfl
            change wpAnyH Tryd.prog _ _ _ _ _ _ (Act.put _ (some 48) _) _
            (try simp only [Act.put, List.setIfInBounds_toArray, List.set_cons_zero, List.set_cons_succ])
            refine wpAnyH_take (i := 12) (v := ?_) rfl (by kernel_rfl) (by kernel_rfl) (by kernel_rfl) (fun _ _ _ h => h) (Or.inl ⟨by rfl, ?_⟩) (by assumption) ?_
            rotate_left
            · (intro w' hSw; (try dsimp only at hSw); go_simp) <;> with_reducible rfl
            change wpAnyH Tryd.prog _ _ _ _ _ _ (Act.put _ (some 49) _) _
            (try simp only [Act.put, List.setIfInBounds_toArray, List.set_cons_zero, List.set_cons_succ])
            refine wpAnyH_take (i := 13) (v := ?_) rfl (by kernel_rfl) (by kernel_rfl) (by kernel_rfl) (fun _ _ _ h => h) (Or.inl ⟨by rfl, ?_⟩) (by assumption) ?_
            rotate_left
            · (intro w' hSw; (try dsimp only at hSw); go_simp) <;> with_reducible rfl
            change wpAnyH Tryd.prog _ _ _ _ _ _ (Act.put _ (some 50) _) _
            (try simp only [Act.put, List.setIfInBounds_toArray, List.set_cons_zero, List.set_cons_succ])
            refine wpAnyH_ready (rs := [14]) (by kernel_rfl) (by simp) ?_
            refine AllReadyH.cons (i := 14) rfl (fun K hK => ?_) AllReadyH.nil
            go_simp
            refine (LH.out _ hx2 _).mono ?_
            rintro e w3 ⟨rfl, hb3⟩
            have hx3 := hx2.trans hb3
            clear hHeld
            cases hh with
            | true =>
              have HR : Hid (R = (.nil, false)) := VN.out (by rw [UA.out, HW.out]; rfl)
              go_wp2_with fail
              refine hK.out _ _ ?_ (fun hHeld => ?_)
              · exact KS.out _ hx3
              clear hK
              (try simp only [Act.put, List.setIfInBounds_toArray, List.set_cons_zero, List.set_cons_succ])
              refine wpAnyH_take (i := 15) (v := ?_) rfl (by kernel_rfl) (by kernel_rfl) (by kernel_rfl) (fun _ _ _ h => h) (Or.inl ⟨by rfl, ?_⟩) (by assumption) ?_
              rotate_left
              · (intro w' hSw; (try dsimp only at hSw); go_simp) <;> with_reducible rfl
              change wpAnyH Tryd.prog _ _ _ _ _ _ (Act.put _ (some 52) _) _
              (try simp only [Act.put, List.setIfInBounds_toArray, List.set_cons_zero, List.set_cons_succ])
              refine wpAnyH_take (i := 16) (v := ?_) rfl (by kernel_rfl) (by kernel_rfl) (by kernel_rfl) (fun _ _ _ h => h) (Or.inl ⟨by rfl, ?_⟩) (by assumption) ?_
              rotate_left
              · (intro w' hSw; (try dsimp only at hSw); go_simp) <;> with_reducible rfl
              change wpAnyH Tryd.prog _ _ _ _ _ _ (Act.put _ (some 53) _) _
              (try simp only [Act.put, List.setIfInBounds_toArray, List.set_cons_zero, List.set_cons_succ])
              refine wpAnyH_take (i := 17) (v := undef) rfl (by kernel_rfl) (by kernel_rfl) (by kernel_rfl) (fun _ _ _ h => h) (Or.inr ⟨by kernel_rfl, rfl⟩) (by assumption) ?_
              change wpAnyH Tryd.prog _ _ _ _ _ _ (Act.put _ (some 54) _) _
              (try simp only [Act.put, List.setIfInBounds_toArray, List.set_cons_zero, List.set_cons_succ])
              refine wpAnyH_take (i := 18) (v := undef) rfl (by kernel_rfl) (by kernel_rfl) (by kernel_rfl) (fun _ _ _ h => h) (Or.inr ⟨by kernel_rfl, rfl⟩) (by assumption) ?_
              change wpAnyH Tryd.prog _ _ _ _ _ _ (Act.put _ (some 55) _) _
              (try simp only [Act.put, List.setIfInBounds_toArray, List.set_cons_zero, List.set_cons_succ])
              refine wpAnyH_take (i := 19) (v := undef) rfl (by kernel_rfl) (by kernel_rfl) (by kernel_rfl) (fun _ _ _ h => h) (Or.inr ⟨by kernel_rfl, rfl⟩) (by assumption) ?_
              change wpAnyH Tryd.prog _ _ _ _ _ _ (Act.put _ (some 56) _) _
              (try simp only [Act.put, List.setIfInBounds_toArray, List.set_cons_zero, List.set_cons_succ])
              refine wpAnyH_take (i := 20) (v := undef) rfl (by kernel_rfl) (by kernel_rfl) (by kernel_rfl) (fun _ _ _ h => h) (Or.inr ⟨by kernel_rfl, rfl⟩) (by assumption) ?_
              change wpAnyH Tryd.prog _ _ _ _ _ _ (Act.put _ (some 57) _) _
              (try simp only [Act.put, List.setIfInBounds_toArray, List.set_cons_zero, List.set_cons_succ])
              refine wpAnyH_take (i := 21) (v := undef) rfl (by kernel_rfl) (by kernel_rfl) (by kernel_rfl) (fun _ _ _ h => h) (Or.inr ⟨by kernel_rfl, rfl⟩) (by assumption) ?_
              change wpAnyH Tryd.prog _ _ _ _ _ _ (Act.put _ (some 58) _) _
              (try simp only [Act.put, List.setIfInBounds_toArray, List.set_cons_zero, List.set_cons_succ])
              refine wpAnyH_take (i := 22) (v := undef) rfl (by kernel_rfl) (by kernel_rfl) (by kernel_rfl) (fun _ _ _ h => h) (Or.inr ⟨by kernel_rfl, rfl⟩) (by assumption) ?_
              change wpAnyH Tryd.prog _ _ _ _ _ _ (Act.put _ (some 59) _) _
              (try simp only [Act.put, List.setIfInBounds_toArray, List.set_cons_zero, List.set_cons_succ])
              refine wpAnyH_take (i := 23) (v := ?_) rfl (by kernel_rfl) (by kernel_rfl) (by kernel_rfl) (fun _ _ _ h => h) (Or.inl ⟨by rfl, ?_⟩) (by assumption) ?_
              rotate_left
              · (intro w' hSw; (try dsimp only at hSw); go_simp) <;> with_reducible rfl
              change wpAnyH Tryd.prog _ _ _ _ _ _ (Act.put _ (some 60) _) _
              (try simp only [Act.put, List.setIfInBounds_toArray, List.set_cons_zero, List.set_cons_succ])
              obtain ⟨n1, r0, r2, xf⟩ := FIN.out _ hx3
              refine wpAnyH_done (by kernel_rfl) ?_ _
              go_wp2_with fail
              have s0 := World.cell?_setCell_same w3 ⟨w.heap.size + 1, 0, none⟩ (.slice none 0 0) r0
              exact bodyPost_ret (v := .tuple #[.agg #[.slice none 0 0], .bool false]) (by simp [results, Tryd.results5, go_sem, s0]) rfl (ends.out _ (xf.set (by show w.heap.size ≤ w.heap.size + 1; omega) _) HR.out)
            | false =>
              have HU : Hid _ := U.out (by rw [UA.out, HW.out]; rfl)
              go_wp2_with fail
              refine hK.out _ _ ?_ (fun hHeld => ?_)
              · exact KS.out _ hx3
              clear hK
              (try simp only [Act.put, List.setIfInBounds_toArray, List.set_cons_zero, List.set_cons_succ])
              refine wpAnyH_take (i := 15) (v := ?_) rfl (by kernel_rfl) (by kernel_rfl) (by kernel_rfl) (fun _ _ _ h => h) (Or.inl ⟨by rfl, ?_⟩) (by assumption) ?_
              rotate_left
              · (intro w' hSw; (try dsimp only at hSw); go_simp) <;> with_reducible rfl
              change wpAnyH Tryd.prog _ _ _ _ _ _ (Act.put _ (some 52) _) _
              (try simp only [Act.put, List.setIfInBounds_toArray, List.set_cons_zero, List.set_cons_succ])
              refine wpAnyH_take (i := 16) (v := ?_) rfl (by kernel_rfl) (by kernel_rfl) (by kernel_rfl) (fun _ _ _ h => h) (Or.inl ⟨by rfl, ?_⟩) (by assumption) ?_
              rotate_left
              · (intro w' hSw; (try dsimp only at hSw); go_simp) <;> with_reducible rfl
              change wpAnyH Tryd.prog _ _ _ _ _ _ (Act.put _ (some 53) _) _
              (try simp only [Act.put, List.setIfInBounds_toArray, List.set_cons_zero, List.set_cons_succ])
              refine wpAnyH_take (i := 17) (v := ?_) rfl (by kernel_rfl) (by kernel_rfl) (by kernel_rfl) (fun _ _ _ h => h) (Or.inl ⟨by rfl, ?_⟩) (by assumption) ?_
              rotate_left
              · (intro w' hSw; (try dsimp only at hSw); go_simp) <;> with_reducible rfl
              change wpAnyH Tryd.prog _ _ _ _ _ _ (Act.put _ (some 54) _) _
              (try simp only [Act.put, List.setIfInBounds_toArray, List.set_cons_zero, List.set_cons_succ])
              refine wpAnyH_take (i := 18) (v := ?_) rfl (by kernel_rfl) (by kernel_rfl) (by kernel_rfl) (fun _ _ _ h => h) (Or.inl ⟨by rfl, ?_⟩) (by assumption) ?_
              rotate_left
              · (intro w' hSw; (try dsimp only at hSw); go_simp) <;> with_reducible rfl
              change wpAnyH Tryd.prog _ _ _ _ _ _ (Act.put _ (some 55) _) _
              (try simp only [Act.put, List.setIfInBounds_toArray, List.set_cons_zero, List.set_cons_succ])
              refine wpAnyH_take (i := 19) (v := ?_) rfl (by kernel_rfl) (by kernel_rfl) (by kernel_rfl) (fun _ _ _ h => h) (Or.inl ⟨by rfl, ?_⟩) (by assumption) ?_
              rotate_left
              · (intro w' hSw; (try dsimp only at hSw); go_simp) <;> with_reducible rfl
              change wpAnyH Tryd.prog _ _ _ _ _ _ (Act.put _ (some 56) _) _
              (try simp only [Act.put, List.setIfInBounds_toArray, List.set_cons_zero, List.set_cons_succ])
              refine wpAnyH_take (i := 20) (v := ?_) rfl (by kernel_rfl) (by kernel_rfl) (by kernel_rfl) (fun _ _ _ h => h) (Or.inl ⟨by rfl, ?_⟩) (by assumption) ?_
              rotate_left
              · (intro w' hSw; (try dsimp only at hSw); go_simp) <;> with_reducible rfl
              change wpAnyH Tryd.prog _ _ _ _ _ _ (Act.put _ (some 57) _) _
              (try simp only [Act.put, List.setIfInBounds_toArray, List.set_cons_zero, List.set_cons_succ])
              refine wpAnyH_ready (rs := [21]) (by kernel_rfl) (by simp) ?_
              refine AllReadyH.cons (i := 21) rfl (fun K hK => ?_) AllReadyH.nil
              go_simp
              refine (TO.out _ hx3).mono ?_
              rintro e w4 ⟨rfl, hb4⟩
              have hx4 := hx3.trans hb4
              clear hHeld
              cases z with
              | false =>
                have HR : Hid (R = (.nil, false)) := VF.out rfl
                go_wp2_with fail
                refine hK.out _ _ ?_ (fun hHeld => ?_)
                · exact KS.out _ hx4
                clear hK
                (try simp only [Act.put, List.setIfInBounds_toArray, List.set_cons_zero, List.set_cons_succ])
                refine wpAnyH_take (i := 22) (v := ?_) rfl (by kernel_rfl) (by kernel_rfl) (by kernel_rfl) (fun _ _ _ h => h) (Or.inl ⟨by rfl, ?_⟩) (by assumption) ?_
                rotate_left
                · (intro w' hSw; (try dsimp only at hSw); go_simp) <;> with_reducible rfl
                change wpAnyH Tryd.prog _ _ _ _ _ _ (Act.put _ (some 59) _) _
                (try simp only [Act.put, List.setIfInBounds_toArray, List.set_cons_zero, List.set_cons_succ])
                refine wpAnyH_take (i := 23) (v := ?_) rfl (by kernel_rfl) (by kernel_rfl) (by kernel_rfl) (fun _ _ _ h => h) (Or.inl ⟨by rfl, ?_⟩) (by assumption) ?_
                rotate_left
                · (intro w' hSw; (try dsimp only at hSw); go_simp) <;> with_reducible rfl
                change wpAnyH Tryd.prog _ _ _ _ _ _ (Act.put _ (some 60) _) _
                (try simp only [Act.put, List.setIfInBounds_toArray, List.set_cons_zero, List.set_cons_succ])
                obtain ⟨n1, r0, r2, xf⟩ := FIN.out _ hx4
                refine wpAnyH_done (by kernel_rfl) ?_ _
                go_wp2_with fail
                have s0 := World.cell?_setCell_same w4 ⟨w.heap.size + 1, 0, none⟩ (.slice none 0 0) r0
                exact bodyPost_ret (v := .tuple #[.agg #[.slice none 0 0], .bool false]) (by simp [results, Tryd.results5, go_sem, s0]) rfl (ends.out _ (xf.set (by show w.heap.size ≤ w.heap.size + 1; omega) _) HR.out)
              | true =>
                have HUF : Hid _ := UF.out rfl
                go_wp2_with fail
                refine hK.out _ _ ?_ (fun hHeld => ?_)
                · exact KS.out _ hx4
                clear hK
                (try simp only [Act.put, List.setIfInBounds_toArray, List.set_cons_zero, List.set_cons_succ])
                refine wpAnyH_take (i := 22) (v := ?_) rfl (by kernel_rfl) (by kernel_rfl) (by kernel_rfl) (fun _ _ _ h => h) (Or.inl ⟨by rfl, ?_⟩) (by assumption) ?_
                rotate_left
                · (intro w' hSw; (try dsimp only at hSw); go_simp) <;> with_reducible rfl
                change wpAnyH Tryd.prog _ _ _ _ _ _ (Act.put _ (some 59) _) _
                (try simp only [Act.put, List.setIfInBounds_toArray, List.set_cons_zero, List.set_cons_succ])
                refine wpAnyH_take (i := 23) (v := ?_) rfl (by kernel_rfl) (by kernel_rfl) (by kernel_rfl) (fun _ _ _ h => h) (Or.inl ⟨by rfl, ?_⟩) (by assumption) ?_
                rotate_left
                · (intro w' hSw; (try dsimp only at hSw); go_simp) <;> with_reducible rfl
                change wpAnyH Tryd.prog _ _ _ _ _ _ (Act.put _ (some 60) _) _
                (try simp only [Act.put, List.setIfInBounds_toArray, List.set_cons_zero, List.set_cons_succ])
                have EN : Hid (Ex (((w.alloc (.cells #[.int .i64 k, .int .i64 n, .string s, .slice pa p.length pc, .slice a (tlen f) c] 28)).alloc (.cells #[.slice none 0 0] 32)).alloc (.cells #[.slice none 0 0] 32)) w4) := E.out.trans hx4
                refine wpAnyH_done (by kernel_rfl) ?_ _
                go_wp2_with fail
                go_roundw
                case rel => exact ⟨j + 1, by omega, by go_num, HU.out, HUF.out, EN.out⟩
                case measure => simp [intOf]; omega
        · have HN : Hid (namesB ns = true) := NB.out.trans (uniqB_yes fun i hi => A.out i (by omega))
          have HF : Hid (fitAll tl = true) := fitAll_yes fun i hi => AF.out i (by have := LE.out; omega)
          have HR : Hid (R = typeR (oneT (setAll nilK ns tl ns.length) k s p (evT (setAll nilK ns tl ns.length) f))) := RR.out.trans (kindR_ok LE.out HN.out HF.out HTB.out)
          have XR : Hid (Ex w wr) := N.out.trans E.out
          have XE : Ex wr (wr.alloc (.cells #[.slice na ns.length nc, .slice ta (len tl) tc] 50)) := Ex.new _ _
          have FT : Hid (R.2 = true → fits 4 R.1 = true) := fun _ => by rw [RR.out]; exact kindR_fits
          have ST : Hid (Calls Tryd.prog 18 #[.pointer (some ⟨wr.heap.size, 0, none⟩), .agg #[.int .i64 k, .int .i64 n, .string s, .slice pa p.length pc, .slice a (tlen f) c]] (wr.alloc (.cells #[.slice na ns.length nc, .slice ta (len tl) tc] 50)) (StP (fun b => b < w.heap.size) (oneT (setAll nilK ns tl ns.length) k s p (evT (setAll nilK ns tl ns.length) f)) (wr.alloc (.cells #[.slice na ns.length nc, .slice ta (len tl) tc] 50)))) :=
            sterm_all wr.heap.size (fun b => b < w.heap.size) ns tl na ta nc tc hnl LE.out.symm HF.out 8 k n s p pa pc f a c _ (by simp) (by simp) (X.out _ (XR.out.trans XE)) (SA_ex V0.out (XR.out.trans XE)) (fun b hb => Nat.lt_of_lt_of_le hb (XR.out.trans XE).size) SM.out.1 (P.out _ (XR.out.trans XE)) (M.out _ (XR.out.trans XE)) SM.out.2.1 SM.out.2.2 HTB.out
          obtain ⟨Q, hQ⟩ : ∃ Q, Q = oneT (setAll nilK ns tl ns.length) k s p (evT (setAll nilK ns tl ns.length) f) := ⟨_, rfl⟩
          rw [← hQ] at ST HR
          clear hQ XE RR
          obtain ⟨c0, c1, c2, c3, c4, _, n1⟩ := C.out wr E.out
          have zr : w.heap.size + 2 < wr.heap.size := World.block_lt_of_cell? _ _ n1
          have zr0 : w.heap.size < wr.heap.size := by omega
          clear n1
          go_wp2_with fail
          refine Calls.mono ST.out ?_
          rintro e w5 ⟨g, a5, c5, rfl, hg, hV5, hb5⟩
          have V5 : Hid (∀ w', Ex w5 w' → SA w' (fun _ => True) g a5) := fun w' h => SA_mono (SA_ex hV5 h) fun _ _ _ => trivial
          have x5 : Ex (((w.alloc (.cells #[.int .i64 k, .int .i64 n, .string s, .slice pa p.length pc, .slice a (tlen f) c] 28)).alloc (.cells #[.slice none 0 0] 32)).alloc (.cells #[.slice none 0 0] 32)) w5 := E.out.trans ((Ex.new _ _).trans hb5)
          have X5 : Hid (Ex (((w.alloc (.cells #[.int .i64 k, .int .i64 n, .string s, .slice pa p.length pc, .slice a (tlen f) c] 28)).alloc (.cells #[.slice none 0 0] 32)).alloc (.cells #[.slice none 0 0] 32)) w5) := x5
          have zr5 : w.heap.size + 2 < w5.heap.size := by have := hb5.size; rw [World.size_alloc] at this; omega
          have zr1 : w.heap.size + 1 < w5.heap.size := by omega
          have GQ : Hid (∀ v, Q = some v → v = g) := hg
          clear c0 c1 c2 c3 c4 hV5 hb5 hg ST
          obtain ⟨_, _, _, _, _, hr5, n5⟩ := C.out w5 X5.out
          have r0 := cell_of_one hr5
          have r2 := free_of_one hr5
          cases Q with
          | none =>
            simp only [Option.isSome_none]
            go_wp2_with fail
            have s0 := res_at r0 (.slice none 0 0) (.cells #[.slice a5 (len g) c5] 32)
            exact bodyPost_ret (v := .tuple #[.agg #[.slice none 0 0], .bool false]) (by simp [results, Tryd.results5, go_sem, s0]) rfl (ends.out _ (((N.out.trans X5.out).set (by show w.heap.size ≤ w.heap.size + 1; omega) _).alloc _) HR.out)
          | some v =>
            have hvg := GQ.out v rfl
            subst hvg
            have F4 : fits 4 v = true := by have h := FT.out; rw [HR.out] at h; exact h rfl
            have CP : Hid (∀ w', Ex w5 w' → Calls Tryd.prog 19 #[.agg #[.slice a5 (len v) c5]] w' fun e w'' => ∃ a' c', e = .returned (.agg #[.slice a' (len v) c']) ∧ TA w'' w'.heap.size v a' ∧ Ex w' w'') := fun w' h => l1Copy_any 4 v a5 c5 0 w' (fits_dep _ _ F4) (by have := (fits_sm _ _ F4).1; omega) (fits_sm _ _ F4).2 (SA_mono (V5.out w' h) fun _ _ _ => Nat.zero_le _)
            have HR5 : Hid _ := hr5
            simp only [Option.isSome_some]
            clear F4 r0 r2 n5 hr5
            go_wp2_with fail
            refine (CP.out _ (Ex.new _ _)).mono ?_
            rintro e w6 ⟨a6, c6, rfl, hT6, hb6⟩
            have x6 : Ex w5 w6 := (Ex.new _ _).trans hb6
            have XX : Hid (Ex w w6) := N.out.trans (X5.out.trans x6)
            have hr6 := x6.blk HR5.out
            have T6 : Hid (TA w6 (w.heap.size + 2) v a6) := TA_lo hT6 (by rw [World.size_alloc]; omega)
            clear hT6
            have r0 := cell_of_one hr6
            have r2 := free_of_one hr6
            go_wp2_with fail
            have s0 := World.cell?_setCell_same w6 ⟨w.heap.size + 1, 0, none⟩ (.slice a6 (len v) c6) r0
            refine bodyPost_ret (v := .tuple #[.agg #[.slice a6 (len v) c6], .bool true]) (by simp [results, Tryd.results5, go_sem, s0]) rfl ?_
            rw [HR.out]
            exact ⟨a6, c6, rfl, TA_lo (TA_kp T6.out ((Kp.refl _ _).set (Or.inl (by show w.heap.size + 1 < w.heap.size + 2; omega)) _)) (by omega), XX.out.set (by show w.heap.size ≤ w.heap.size + 1; omega) _⟩
  · have e15 : ((ns.length : Int) != (len tl : Int)) = true := by simp; omega
    have HR : Hid (R = (.nil, false)) := RR.out.trans (kindR_len hlen)
    clear hlen
    go_enter Tryd.func5, Tryd.ntmps5
    go_wp2_with fail
    exact bodyPost_ret (v := .tuple #[.agg #[.slice none 0 0], .bool false]) (by simp [results, Tryd.results5, go_sem]) rfl (ends.out _ N.out HR.out)

end Go.Proofs.YtldbmlojgakieaaDoor

namespace Go.Proofs.YtldbmlojgakieaaDoor

open Go.RowKit Go.Deep
end Go.Proofs.YtldbmlojgakieaaDoor

namespace Go.Proofs.YtldbmlojgakieaaDoor

open Go.RowKit Go.Deep

attribute [local go_sem ↓] Go.wp_at_zero Go.wp_at_succ

/-- A block holds numbers, and nothing else. -/
def IB (w : World) (b : Nat) (xs : List Int) : Prop := ∃ cur : Array Value, w.heap[b]? = some (.cells cur 3 (0, 0)) ∧ cur.size = xs.length ∧ ∀ i, i < xs.length → cur[i]? = some (.int .i64 (xs.getD i 0))
theorem IB.pa {w : World} {b lo : Nat} {xs : List Int} (h : IB w b xs) (hl : lo ≤ b) : PA w lo xs (some ⟨b, 0, none⟩) := by
  obtain ⟨cur, h1, h2, h3⟩ := h
  refine Or.inr ⟨b, 0, rfl, hl, fun i hi => ?_⟩
  simp [World.cell?, h1, h3 i hi]
theorem IB.ex {w w' : World} {b : Nat} {xs : List Int} (h : IB w b xs) (hx : Ex w w') : IB w' b xs := by
  obtain ⟨cur, h1, h2⟩ := h
  exact ⟨cur, hx.blk h1, h2⟩
theorem IB.lt {w : World} {b : Nat} {xs : List Int} (h : IB w b xs) : b < w.heap.size := by
  obtain ⟨cur, h1, _⟩ := h
  exact lt_of_block h1

end Go.Proofs.YtldbmlojgakieaaDoor

namespace Go.Proofs.YtldbmlojgakieaaDoor

open Go.RowKit Go.Deep

attribute [local go_sem ↓] Go.wp_at_zero Go.wp_at_succ

/-- Values set in a row of cells. -/
def setL (w : World) (b : Nat) : Nat → List Value → World
  | _, [] => w
  | o, v :: r => setL (w.setCell ⟨b, o, none⟩ v) b (o + 1) r
def setA (cur : Array Value) : Nat → List Value → Array Value
  | _, [] => cur
  | o, v :: r => setA (cur.setIfInBounds o v) (o + 1) r
theorem setA_size : ∀ (vs : List Value) (cur : Array Value) (o : Nat), (setA cur o vs).size = cur.size
  | [], _, _ => rfl
  | v :: r, cur, o => by rw [setA, setA_size r]; simp
theorem setA_out : ∀ (vs : List Value) (cur : Array Value) (o i : Nat), i < o ∨ o + vs.length ≤ i → (setA cur o vs)[i]? = cur[i]?
  | [], _, _, _, _ => rfl
  | v :: r, cur, o, i, h => by
    simp only [List.length_cons] at h
    rw [setA, setA_out r _ _ _ (by omega), Array.getElem?_setIfInBounds_ne (by omega)]
theorem setA_in : ∀ (vs : List Value) (cur : Array Value) (o i : Nat) (v : Value), vs[i]? = some v → o + i < cur.size → (setA cur o vs)[o + i]? = some v
  | [], _, _, _, _, h, _ => by simp at h
  | u :: r, cur, o, 0, v, h, hs => by
    simp only [List.getElem?_cons_zero, Option.some.injEq] at h
    subst h
    rw [setA, setA_out r _ _ _ (by omega), Nat.add_zero, Array.getElem?_setIfInBounds_self, if_pos (by omega)]
  | u :: r, cur, o, i + 1, v, h, hs => by
    rw [setA, show o + (i + 1) = o + 1 + i by omega]
    exact setA_in r _ _ _ _ (by simpa using h) (by simp; omega)
theorem setA_all (vs : List Value) (cur : Array Value) (h : cur.size = vs.length) : setA cur 0 vs = vs.toArray := by
  refine Array.ext' (List.ext_getElem? fun i => ?_)
  rw [Array.getElem?_toList]
  rcases Nat.lt_or_ge i vs.length with hi | hi
  · have := setA_in vs cur 0 i vs[i] (by simp [hi]) (by omega)
    rw [Nat.zero_add] at this
    rw [this]; simp [hi]
  · rw [setA_out vs cur 0 i (Or.inr (by omega))]
    simp [hi, h]
theorem setL_size : ∀ (vs : List Value) (w : World) (b o : Nat), (setL w b o vs).heap.size = w.heap.size
  | [], _, _, _ => rfl
  | v :: r, w, b, o => by rw [setL, setL_size r, World.size_setCell]
theorem setL_blk : ∀ (vs : List Value) {w : World} {b o : Nat} {cur : Array Value} {t : TypeId}, w.heap[b]? = some (.cells cur t (0, 0)) → (setL w b o vs).heap[b]? = some (.cells (setA cur o vs) t (0, 0))
  | [], _, _, _, _, _, h => h
  | v :: r, w, b, o, cur, t, h => by
    rw [setL, setA]
    exact setL_blk r (by simp [World.setCell, Array.getElem?_modify, h])
theorem setL_other : ∀ (vs : List Value) {w : World} {b o n : Nat}, n ≠ b → (setL w b o vs).heap[n]? = w.heap[n]?
  | [], _, _, _, _, _ => rfl
  | v :: r, w, b, o, n, h => by rw [setL, setL_other r h, Below.heap_setCell _ _ _ _ (by simpa using h)]
theorem setL_ex : ∀ (vs : List Value) {a w : World} {b o : Nat}, Ex a w → a.heap.size ≤ b → Ex a (setL w b o vs)
  | [], _, _, _, _, h, _ => h
  | v :: r, a, w, b, o, h, hb => by rw [setL]; exact setL_ex r (h.set hb v) hb
theorem setL_kp : ∀ (vs : List Value) {lo : Nat} {a w : World} {b o : Nat}, Kp lo a w → (b < lo ∨ a.heap.size ≤ b) → Kp lo a (setL w b o vs)
  | [], _, _, _, _, _, h, _ => h
  | v :: r, lo, a, w, b, o, h, hb => by rw [setL]; exact setL_kp r (h.set hb v) hb
theorem blk_set {w : World} {n i : Nat} {vs : Array Value} {t : TypeId} (h : w.heap[n]? = some (.cells vs t (0, 0))) (v : Value) : (w.setCell ⟨n, i, none⟩ v).heap[n]? = some (.cells (vs.setIfInBounds i v) t (0, 0)) := by
  simp [World.setCell, Array.getElem?_modify, h]
theorem blk_off {w : World} {n m i : Nat} {o : Obj} (h : w.heap[n]? = some o) (hn : n ≠ m) (v : Value) : (w.setCell ⟨m, i, none⟩ v).heap[n]? = some o := by
  rw [Below.heap_setCell _ _ _ _ (by simpa using hn)]; exact h
theorem blk_cell {w : World} {n : Nat} {vs : Array Value} {t : TypeId} (h : w.heap[n]? = some (.cells vs t (0, 0))) (i : Nat) : w.cell? ⟨n, i, none⟩ = vs[i]? := by
  simp [World.cell?, h]
theorem blk_free {w : World} {n : Nat} {vs : Array Value} {t : TypeId} (h : w.heap[n]? = some (.cells vs t (0, 0))) (i : Nat) : w.frozen? ⟨n, i, none⟩ = false := by
  simp [World.frozen?, h]

end Go.Proofs.YtldbmlojgakieaaDoor
