/- Walks: the type of a term with another part, by the program. -/
import Derived.Test.YthdihpcpobhadaaDoorKT3

namespace Go.Proofs.YthdihpcpobhadaaDoor

open Go.RowKit Go.Deep Go.Maps Go.WideMaps

attribute [local go_sem ↓] Go.wp_at_zero Go.wp_at_succ

set_option maxRecDepth 100000 in
set_option maxHeartbeats 4000000 in
theorem kterm_8 (eb : Addr) (S : Nat → Prop) (L : ByteArray → F) (la : Option Addr) (ll lc : Nat) (tm : Option Nat) (mb mn : Nat) (n : Int) (s : ByteArray) (p : List Int) (pa : Option Addr) (pc : Nat) (f : TM) (a : Option Addr) (c : Nat) (w : World)
    (hG : w.cell? ⟨1, 0, none⟩ = some (EV eb)) (hE : KM w S mb mn L) (hS : ∀ b, S b → b < w.heap.size) (hs : s.size ≤ 9223372036854775807) (hp : p.length ≤ 1000000000) (hP : PA w 0 p pa)
    (hsh : tlen f = 2) (hT : ∀ l, evT L f = some l → ∀ i, i < len l → fits 4 (kid l i) = true)
    (hK : ∀ w', Ex w w' → Calls Tryd.prog 74 #[.agg #[.slice la ll lc, .map tm, .map (some mb)], .slice a (tlen f) c] w' (TysP eb S (evT L f) w')) :
    Calls Tryd.prog 69 #[.agg #[.slice la ll lc, .map tm, .map (some mb)], .agg #[.int .i64 8, .int .i64 n, .string s, .slice pa p.length pc, .slice a (tlen f) c]] w (TyP eb S (oneT L 8 s p (evT L f)) w) := by
  have G : Hid (∀ w', Ex w w' → w'.cell? ⟨1, 0, none⟩ = some (EV eb)) := fun w' h => h.at hG
  have EE : Hid (∀ w', Ex w w' → KM w' S mb mn L) := fun w' h => hE.ex h
  have HS : Hid (∀ b, S b → b < w.heap.size) := hS
  have SZ : Hid (s.size ≤ 9223372036854775807) := hs
  have PL : Hid (p.length ≤ 1000000000) := hp
  have P : Hid (∀ w', Ex w w' → PA w' 0 p pa) := fun _ h => PA_below hP h
  have SH : Hid (tlen f = 2) := hsh
  have TT : Hid (∀ l, evT L f = some l → ∀ i, i < len l → fits 4 (kid l i) = true) := hT
  have K : Hid (∀ w', Ex w w' → Calls Tryd.prog 74 #[.agg #[.slice la ll lc, .map tm, .map (some mb)], .slice a (tlen f) c] w' (TysP eb S (evT L f) w')) := hK
  have N : Hid (Ex w (((w.alloc (.cells #[.slice la ll lc, .map tm, .map (some mb)] 108)).alloc (.cells #[.int .i64 8, .int .i64 n, .string s, .slice pa p.length pc, .slice a (tlen f) c] 28)).alloc (.cells #[.slice none 0 0] 32))) := ((Ex.new _ _).alloc _).alloc _
  have C : Hid (∀ w', Ex (((w.alloc (.cells #[.slice la ll lc, .map tm, .map (some mb)] 108)).alloc (.cells #[.int .i64 8, .int .i64 n, .string s, .slice pa p.length pc, .slice a (tlen f) c] 28)).alloc (.cells #[.slice none 0 0] 32)) w' → w'.cell? ⟨w.heap.size, 0, none⟩ = some (.slice la ll lc) ∧ w'.cell? ⟨w.heap.size, 1, none⟩ = some (.map tm) ∧ w'.cell? ⟨w.heap.size, 2, none⟩ = some (.map (some mb)) ∧ w'.cell? ⟨w.heap.size + 1, 0, none⟩ = some (.int .i64 8) ∧ w'.cell? ⟨w.heap.size + 1, 1, none⟩ = some (.int .i64 n) ∧ w'.cell? ⟨w.heap.size + 1, 2, none⟩ = some (.string s) ∧ w'.cell? ⟨w.heap.size + 1, 3, none⟩ = some (.slice pa p.length pc) ∧ w'.cell? ⟨w.heap.size + 1, 4, none⟩ = some (.slice a (tlen f) c) ∧ w'.heap[w.heap.size + 2]? = some (.cells #[.slice none 0 0] 32 (0, 0))) := fun w' h => ⟨h.at (((Ex.new _ _).alloc _).at (by simp)), h.at (((Ex.new _ _).alloc _).at (by simp)), h.at (((Ex.new _ _).alloc _).at (by simp)), h.at ((Ex.new _ _).at (by simp)), h.at ((Ex.new _ _).at (by simp)), h.at ((Ex.new _ _).at (by simp)), h.at ((Ex.new _ _).at (by simp)), h.at ((Ex.new _ _).at (by simp)), h.blk (heap_alloc_at _ _ (by simp))⟩
  have LN : Hid (∀ l, evT L f = some l → len l = tlen f) := fun l h => evT_len h
  clear hG hE hS hs hp hP hsh hT hK
  obtain ⟨E, hEv⟩ : ∃ E, E = evT L f := ⟨_, rfl⟩
  rw [← hEv] at TT K LN ⊢
  clear hEv
  obtain ⟨R, hR⟩ : ∃ R, R = oneT L 8 s p E := ⟨_, rfl⟩
  have RR : Hid (R = oneT L 8 s p E) := hR
  rw [← hR]
  clear hR
  go_enter Tryd.func69, Tryd.ntmps69
  go_wp2_with fail
  refine Calls.mono (K.out _ N.out) ?_
  rintro e w1 ⟨a1, c1', rfl, hV1, hb1⟩
  obtain ⟨b0, bt, b1, c0, c1, c2, c3, c4, hr⟩ := C.out w1 hb1
  have HR : Hid (w1.heap[w.heap.size + 2]? = some (.cells #[.slice none 0 0] 32 (0, 0))) := hr
  have r0 := cell_of_one hr
  have r2 := free_of_one hr
  have X1 : Hid (Ex w w1) := N.out.trans hb1
  have zW : (((w.alloc (.cells #[.slice la ll lc, .map tm, .map (some mb)] 108)).alloc (.cells #[.int .i64 8, .int .i64 n, .string s, .slice pa p.length pc, .slice a (tlen f) c] 28)).alloc (.cells #[.slice none 0 0] 32)).heap.size = w.heap.size + 3 := by simp only [World.size_alloc]
  rw [zW] at hV1
  have V1 : Hid (SA w1 (fun b => S b ∨ w.heap.size + 3 ≤ b) (E.getD .nil) a1) := hV1
  clear hV1 hb1 K C zW hr
  cases E with
  | none =>
    simp only [Option.getD_none, Option.isSome_none, errV, Bool.false_eq_true, if_false]
    go_wp2_with fail
    have s0 := World.cell?_setCell_same w1 ⟨w.heap.size + 2, 0, none⟩ (.slice none 0 0) r0
    refine bodyPost_ret (v := .tuple #[.agg #[.slice none 0 0], EV eb]) (by simp [results, Tryd.results69, go_sem, s0]) rfl ?_
    have e : R = none := RR.out
    rw [e]
    exact ret_ty (R := none) (a2 := none) (c2 := 0) X1.out (Or.inl rfl) HS.out (by omega) rfl
  | some l =>
    have TY : Hid (∀ i, i < len l → fits 4 (kid l i) = true) := TT.out l rfl
    have LL : Hid (len l = tlen f) := LN.out l rfl
    have V2 : Hid (SA w1 (fun b => S b ∨ w.heap.size + 3 ≤ b) l a1) := V1.out
    simp only [Option.getD_some, Option.isSome_some, errV, if_true]
    clear TT LN V1
    have L2 : Hid (len l = 2) := by
      have := LL.out
      have := SH.out
      show _ = _
      omega
    obtain ⟨b, o, a0, k0, a1', k1', rfl, m0, m1, hV0, hV1⟩ := SA_pair V2.out L2.out
    have NB : Hid (b ≠ w.heap.size + 2) := by
      obtain ⟨b', o', e', hs, _, _⟩ := SA_at V2.out (by have := L2.out; omega)
      cases e'
      show _ ≠ _
      rcases hs with h | h
      · have := HS.out b h; omega
      · omega
    have hl0 : (0 : Int) < (len l : Int) := by have := L2.out; omega
    have hl1 : (1 : Int) < (len l : Int) := by have := L2.out; omega
    have hN0 : Hid (0 < len l ∧ 1 < len l) := by have := L2.out; exact ⟨by omega, by omega⟩
    have zr := lt_of_block HR.out
    obtain ⟨Q, hQ⟩ : ∃ Q, partF (kid l 0) p = Q := ⟨_, rfl⟩
    have QQ : Hid (partF (kid l 0) p = Q) := hQ
    have V0' : SA w1 (fun b => (S b ∨ w.heap.size + 3 ≤ b) ∧ b < w1.heap.size) (kid l 0) a0 := SA_mono hV0 fun b hb h => ⟨h, hb⟩
    have IA : Hid (∀ w', Ex w1 w' → Calls Tryd.prog 44 #[.agg #[.slice a0 (len (kid l 0)) k0], .slice pa p.length pc, .func (.func 45) #[] #[]] w' fun e w'' => ∃ (a' : Option Addr) (cap' : Nat), e = .returned (.tuple #[.agg #[.slice a' (len (Q.getD .nil)) cap'], .bool Q.isSome]) ∧ SA w'' (fun b => (S b ∨ w.heap.size + 3 ≤ b) ∧ b < w1.heap.size) (Q.getD .nil) a' ∧ Ex w' w'') := fun w' h => by rw [← hQ]; exact partAtS_one _ p a0 k0 pa pc _ w' PL.out (SA_ex V0' h) (P.out w' (X1.out.trans h))
    have V0 : Hid (SA w1 (fun b => S b ∨ w.heap.size + 3 ≤ b) (kid l 0) a0) := hV0
    have VK : Hid (SA w1 (fun b => S b ∨ w.heap.size + 3 ≤ b) (kid l 1) a1') := hV1
    have F0 : Hid (fits 4 (kid l 0) = true) := TY.out 0 (by have := L2.out; omega)
    have F1 : Hid (fits 4 (kid l 1) = true) := TY.out 1 (by have := L2.out; omega)
    have KC : Hid (∀ w', Ex w1 w' → w'.cell? ⟨b, o, none⟩ = some (.slice a0 (len (kid l 0)) k0) ∧ w'.cell? ⟨b, o + 1, none⟩ = some (.slice a1' (len (kid l 1)) k1')) := fun w' h => ⟨h.at m0, h.at m1⟩
    clear hQ hV0 hV1 V0'
    have zr1 : w.heap.size + 1 < w1.heap.size := by omega
    have zr0 : w.heap.size < w1.heap.size := by omega
    have zb : b < w1.heap.size := World.block_lt_of_cell? _ _ m0
    go_upto_region 15 with fail
    go_cut [9, 10] from 60 to 67 (fun p9 p10 wx => p10 = .bool Q.isSome ∧ ∃ q a' c', p9 = .pointer (some ⟨q, 0, none⟩) ∧ wx.cell? ⟨q, 0, none⟩ = some (.slice a' (len (Q.getD .nil)) c') ∧ Ex w1 wx ∧ SA wx (fun b => (S b ∨ w.heap.size + 3 ≤ b) ∧ b < w1.heap.size) (Q.getD .nil) a')
    case first =>
      go_region_with (first | (go_at_call 44; refine (IA.out _ (by first | exact (Ex.refl _).drew | exact (Ex.refl _).drew.trans (Ex.new _ _))).mono ?_; rintro e w5 ⟨a5, c5, rfl, ht5, hb5⟩; have xb : Ex w1 w5 := (by refine Ex.trans ?_ hb5; first | exact (Ex.refl _).drew | exact (Ex.new _ _).drew | exact (Ex.refl _).drew.alloc _); first | (have ob : w5.heap[w1.heap.size]? = some (.cells #[.slice none 0 0] 32) := (by first | exact hb5.blk (heap_alloc_new w1.drew _) | exact hb5.blk (heap_alloc_new w1 _)); have oc := cell_of_one ob; have oz := free_of_one ob) | skip))
      all_goals
        go_wp2_with fail
        go_meet
        first
          | exact ⟨rfl, w1.heap.size, a5, c5, rfl, cell_of_one (one_setCell ob), Ex.set xb (Nat.le_refl _) _, SA_ks ht5 fun b hb _ => Below.heap_setCell _ _ _ _ (by show b ≠ w1.heap.size; have := hb.2; omega)⟩
          | exact ⟨rfl, w5.heap.size, a5, c5, rfl, World.cell?_alloc_new _ _ _ _, xb.alloc _, SA_ex ht5 (Ex.new _ _)⟩
    case rest =>
      rename World => w6
      obtain ⟨rfl, q, a5, c5, rfl, hq5, hx5, ht5⟩ := hcut
      have X6 : Hid (Ex w1 w6) := hx5
      have T5 : Hid (∀ w', Ex w6 w' → SA w' (fun b => (S b ∨ w.heap.size + 3 ≤ b) ∧ b < w1.heap.size) (Q.getD .nil) a5) := fun _ h => SA_ex ht5 h
      obtain ⟨u0, u1⟩ := KC.out w6 hx5
      have hr6 : w6.heap[w.heap.size + 2]? = some (.cells #[.slice none 0 0] 32 (0, 0)) := hx5.blk HR.out
      have HR6 : Hid _ := hr6
      have zq : q < w6.heap.size := World.block_lt_of_cell? _ _ hq5
      have zs := hx5.size
      clear hx5 ht5 r0 r2 m0 m1
      have r0 := cell_of_one hr6
      have r2 := free_of_one hr6
      have hz2 : w.heap.size + 2 < w6.heap.size := by omega
      have hzb : b < w6.heap.size := by omega
      clear zs hr6 IA
      cases Q with
      | none =>
        have RV : R = ifT false (kid l 0) := RR.out.trans (oneT_8n QQ.out)
        have IT : Hid (∀ w', Ex w6 w' → Calls Tryd.prog 75 #[.agg #[.slice a0 (len (kid l 0)) k0], .bool false] w' (TyP eb (fun b => S b ∨ w.heap.size + 3 ≤ b) R w')) := fun w' h => by rw [RV]; exact typeIf_any eb _ _ a0 k0 false w' (G.out w' (X1.out.trans (X6.out.trans h))) (SA_ex V0.out (X6.out.trans h))
        clear RV
        simp only [Option.getD_none, Option.isSome_none] at hq5 ⊢
        go_wp2_with fail
        have HU : Hid (w6.cell? ⟨b, o, none⟩ = some (.slice a0 (len (kid l 0)) k0)) := u0
        obtain ⟨hn0, hn1⟩ := hN0.out
        refine wp_region_held_drew (S := fun w' => Ex w w' ∧ w'.cell? ⟨b, o, none⟩ = some (.slice a0 (len (kid l 0)) k0)) (by kernel_rfl) ⟨(X1.out.trans X6.out).drew, HU.out⟩ (fun hHeld => ?_)
        refine wpAnyH_take (i := 0) (v := ?_) rfl (by kernel_rfl) (by kernel_rfl) (by kernel_rfl) (fun _ _ _ h => h) (Or.inl ⟨by rfl, ?_⟩) (by assumption) ?_
        rotate_left
        · (intro w' hSw; (try dsimp only at hSw); go_simp) <;> with_reducible rfl
        change wpAnyH Tryd.prog _ _ _ _ _ _ (Act.put _ (some 68) _) _
        (try simp only [Act.put, List.setIfInBounds_toArray, List.set_cons_zero, List.set_cons_succ])
        refine wpAnyH_take (i := 1) (v := ?_) rfl (by kernel_rfl) (by kernel_rfl) (by kernel_rfl) (fun _ _ _ h => h) (Or.inl ⟨by rfl, ?_⟩) (by assumption) ?_
        rotate_left
        · (intro w' hSw; (try dsimp only at hSw); go_simp) <;> with_reducible rfl
        change wpAnyH Tryd.prog _ _ _ _ _ _ (Act.put _ (some 69) _) _
        (try simp only [Act.put, List.setIfInBounds_toArray, List.set_cons_zero, List.set_cons_succ])
        refine wpAnyH_take (i := 2) (v := ?_) rfl (by kernel_rfl) (by kernel_rfl) (by kernel_rfl) (fun _ _ _ h => h) (Or.inl ⟨by rfl, ?_⟩) (by assumption) ?_
        rotate_left
        · (intro w' hSw; (try dsimp only at hSw); go_simp) <;> with_reducible rfl
        change wpAnyH Tryd.prog _ _ _ _ _ _ (Act.put _ (some 70) _) _
        (try simp only [Act.put, List.setIfInBounds_toArray, List.set_cons_zero, List.set_cons_succ])
        refine wpAnyH_take (i := 3) (v := ?_) rfl (by kernel_rfl) (by kernel_rfl) (by kernel_rfl) (fun _ _ _ h => h) (Or.inl ⟨by rfl, ?_⟩) (by assumption) ?_
        rotate_left
        · (intro w' hSw; (try dsimp only at hSw); go_simp) <;> with_reducible rfl
        change wpAnyH Tryd.prog _ _ _ _ _ _ (Act.put _ (some 71) _) _
        (try simp only [Act.put, List.setIfInBounds_toArray, List.set_cons_zero, List.set_cons_succ])
        refine wpAnyH_take (i := 4) (v := ?_) rfl (by kernel_rfl) (by kernel_rfl) (by kernel_rfl) (fun _ _ _ h => h) (Or.inl ⟨by rfl, ?_⟩) (by assumption) ?_
        rotate_left
        · (intro w' hSw; (try dsimp only at hSw); go_simp) <;> with_reducible rfl
        change wpAnyH Tryd.prog _ _ _ _ _ _ (Act.put _ (some 72) _) _
        (try simp only [Act.put, List.setIfInBounds_toArray, List.set_cons_zero, List.set_cons_succ])
        refine wpAnyH_take (i := 5) (v := undef) rfl (by kernel_rfl) (by kernel_rfl) (by kernel_rfl) (fun _ _ _ h => h) (Or.inr ⟨by kernel_rfl, rfl⟩) (by assumption) ?_
        change wpAnyH Tryd.prog _ _ _ _ _ _ (Act.put _ (some 73) _) _
        (try simp only [Act.put, List.setIfInBounds_toArray, List.set_cons_zero, List.set_cons_succ])
        refine wpAnyH_take (i := 6) (v := undef) rfl (by kernel_rfl) (by kernel_rfl) (by kernel_rfl) (fun _ _ _ h => h) (Or.inr ⟨by kernel_rfl, rfl⟩) (by assumption) ?_
        change wpAnyH Tryd.prog _ _ _ _ _ _ (Act.put _ (some 74) _) _
        (try simp only [Act.put, List.setIfInBounds_toArray, List.set_cons_zero, List.set_cons_succ])
        refine wpAnyH_take (i := 7) (v := undef) rfl (by kernel_rfl) (by kernel_rfl) (by kernel_rfl) (fun _ _ _ h => h) (Or.inr ⟨by kernel_rfl, rfl⟩) (by assumption) ?_
        change wpAnyH Tryd.prog _ _ _ _ _ _ (Act.put _ (some 75) _) _
        (try simp only [Act.put, List.setIfInBounds_toArray, List.set_cons_zero, List.set_cons_succ])
        refine wpAnyH_take (i := 8) (v := undef) rfl (by kernel_rfl) (by kernel_rfl) (by kernel_rfl) (fun _ _ _ h => h) (Or.inr ⟨by kernel_rfl, rfl⟩) (by assumption) ?_
        change wpAnyH Tryd.prog _ _ _ _ _ _ (Act.put _ (some 76) _) _
        (try simp only [Act.put, List.setIfInBounds_toArray, List.set_cons_zero, List.set_cons_succ])
        refine wpAnyH_take (i := 9) (v := undef) rfl (by kernel_rfl) (by kernel_rfl) (by kernel_rfl) (fun _ _ _ h => h) (Or.inr ⟨by kernel_rfl, rfl⟩) (by assumption) ?_
        change wpAnyH Tryd.prog _ _ _ _ _ _ (Act.put _ (some 77) _) _
        (try simp only [Act.put, List.setIfInBounds_toArray, List.set_cons_zero, List.set_cons_succ])
        refine wpAnyH_take (i := 10) (v := ?_) rfl (by kernel_rfl) (by kernel_rfl) (by kernel_rfl) (fun _ _ _ h => h) (Or.inl ⟨by rfl, ?_⟩) (by assumption) ?_
        rotate_left
        · (intro w' hSw; (try dsimp only at hSw); go_simp) <;> with_reducible rfl
        change wpAnyH Tryd.prog _ _ _ _ _ _ (Act.put _ (some 78) _) _
        (try simp only [Act.put, List.setIfInBounds_toArray, List.set_cons_zero, List.set_cons_succ])
        refine wpAnyH_ready (rs := [11]) (by kernel_rfl) (by simp) ?_
        refine AllReadyH.cons (i := 11) rfl (fun K hK => ?_) AllReadyH.nil
        go_simp
        refine (IT.out _ (Ex.refl _).drew).mono ?_
        rintro e w7 ⟨a7, k7, rfl, hV7, hb7⟩
        have xc : Ex w6 w7 := Ex.trans (Ex.refl _).drew hb7
        have hr7 := xc.blk HR6.out
        have XC : Hid (Ex w6 w7) := xc
        have HR7 : Hid _ := hr7
        have V7 : Hid _ := hV7
        clear r0 r2 hV7 hHeld
        have r0 := cell_of_one hr7
        have r2 := free_of_one hr7
        go_wp2_with fail
        refine hK.out _ _ ?_ (fun hHeld => ?_)
        · exact ⟨X1.out.trans (X6.out.trans XC.out), XC.out.at HU.out⟩
        clear hK
        (try simp only [Act.put, List.setIfInBounds_toArray, List.set_cons_zero, List.set_cons_succ])
        refine wpAnyH_take (i := 12) (v := ?_) rfl (by kernel_rfl) (by kernel_rfl) (by kernel_rfl) (fun _ _ _ h => h) (Or.inl ⟨by rfl, ?_⟩) (by assumption) ?_
        rotate_left
        · (intro w' hSw; (try dsimp only at hSw); go_simp) <;> with_reducible rfl
        change wpAnyH Tryd.prog _ _ _ _ _ _ (Act.put _ (some 80) _) _
        (try simp only [Act.put, List.setIfInBounds_toArray, List.set_cons_zero, List.set_cons_succ])
        refine wpAnyH_take (i := 13) (v := ?_) rfl (by kernel_rfl) (by kernel_rfl) (by kernel_rfl) (fun _ _ _ h => h) (Or.inl ⟨by rfl, ?_⟩) (by assumption) ?_
        rotate_left
        · (intro w' hSw; (try dsimp only at hSw); go_simp) <;> with_reducible rfl
        change wpAnyH Tryd.prog _ _ _ _ _ _ (Act.put _ (some 81) _) _
        (try simp only [Act.put, List.setIfInBounds_toArray, List.set_cons_zero, List.set_cons_succ])
        refine wpAnyH_ready (rs := [14]) (by kernel_rfl) (by simp) ?_
        refine AllReadyH.cons (i := 14) rfl (fun K hK => ?_) AllReadyH.nil
        go_simp
        go_wp2_with fail
        refine hK.out _ _ ?_ (fun hHeld => ?_)
        · exact ⟨(X1.out.trans (X6.out.trans XC.out)).set (by show w.heap.size ≤ w.heap.size + 2; omega) _, (World.cell?_setCell_other _ _ _ _ (fun e => NB.out (congrArg Addr.block e).symm)).trans (XC.out.at HU.out)⟩
        clear hK
        (try simp only [Act.put, List.setIfInBounds_toArray, List.set_cons_zero, List.set_cons_succ])
        refine wpAnyH_take (i := 15) (v := ?_) rfl (by kernel_rfl) (by kernel_rfl) (by kernel_rfl) (fun _ _ _ h => h) (Or.inl ⟨by rfl, ?_⟩) (by assumption) ?_
        rotate_left
        · (intro w' hSw; (try dsimp only at hSw); go_simp) <;> with_reducible rfl
        change wpAnyH Tryd.prog _ _ _ _ _ _ (Act.put _ (some 5) _) _
        (try simp only [Act.put, List.setIfInBounds_toArray, List.set_cons_zero, List.set_cons_succ])
        refine wpAnyH_done (by kernel_rfl) ?_ _
        go_wp2_with fail
        have s0 := World.cell?_setCell_same w7 ⟨w.heap.size + 2, 0, none⟩ (.slice a7 (len (R.getD .nil)) k7) (cell_of_one HR7.out)
        refine bodyPost_ret (v := .tuple #[.agg #[.slice a7 (len (R.getD .nil)) k7], errV eb R.isSome]) (by simp [results, Tryd.results69, go_sem, s0]) rfl ?_
        refine ret_ty (X1.out.trans (X6.out.trans XC.out)) (SA_mono V7.out fun b _ hb => ?_) HS.out (by omega) rfl
        have hz : w6.drew.heap.size = w6.heap.size := rfl
        rcases hb with (hb | hb) | hb
        · exact Or.inl hb
        · exact Or.inr (by omega)
        · rw [hz] at hb; exact Or.inr (by omega)
      | some g =>
        have RV : R = ifT (eqT g (kid l 1)) (kid l 0) := RR.out.trans (oneT_8s QQ.out)
        have FG : fits 4 g = true := part_fits p _ g F0.out QQ.out
        obtain ⟨z, hz⟩ : ∃ z, eqT g (kid l 1) = z := ⟨_, rfl⟩
        rw [hz] at RV
        have IS : Hid (∀ w', Ex w6 w' → Calls Tryd.prog 76 #[.agg #[.slice a5 (len g) c5], .agg #[.slice a1' (len (kid l 1)) k1']] w' fun e w'' => e = .returned (.bool z) ∧ Ex w' w'') := fun w' h => by
          have := typeSame_any 4 g (kid l 1) a5 a1' c5 k1' 0 0 w' FG F1.out (SA_mono (T5.out w' h) fun _ _ _ => Nat.zero_le _) (SA_mono (SA_ex VK.out (X6.out.trans h)) fun _ _ _ => Nat.zero_le _)
          rw [hz] at this; exact this
        have IT : Hid (∀ w', Ex w6 w' → Calls Tryd.prog 75 #[.agg #[.slice a0 (len (kid l 0)) k0], .bool z] w' (TyP eb (fun b => S b ∨ w.heap.size + 3 ≤ b) R w')) := fun w' h => by rw [RV]; exact typeIf_any eb _ _ a0 k0 z w' (G.out w' (X1.out.trans (X6.out.trans h))) (SA_ex V0.out (X6.out.trans h))
        have CC : Hid (∀ w', Ex w6 w' → w'.cell? ⟨b, o, none⟩ = some (.slice a0 (len (kid l 0)) k0) ∧ w'.cell? ⟨w.heap.size + 2, 0, none⟩ = some (.slice none 0 0) ∧ w'.frozen? ⟨w.heap.size + 2, 0, none⟩ = false) := fun w' h => ⟨h.at u0, cell_of_one (h.blk HR6.out), free_of_one (h.blk HR6.out)⟩
        clear RV hz FG
        simp only [Option.getD_some, Option.isSome_some] at hq5 ⊢
        go_wp2_with fail
        go_region_with (first | ((first | (go_at_call 76; refine (IS.out _ (Ex.refl _).drew).mono ?_) | (rw [if_pos (by rfl)]; go_simp; go_at_call 76; refine (IS.out _ (Ex.refl _).drew).mono ?_)); rintro e w5 ⟨rfl, hb5⟩; have xb : Ex w6 w5 := Ex.trans (Ex.refl _).drew hb5; clear u0 r0 r2; obtain ⟨u0, r0, r2⟩ := CC.out w5 xb) | (go_at_call 75; refine (IT.out _ xb).mono ?_; rintro e w7 ⟨a7, k7, rfl, hV7, hb7⟩; have xc : Ex w6 w7 := Ex.trans xb hb7; have hr7 := xc.blk HR6.out; have r0 := cell_of_one hr7; have r2 := free_of_one hr7))
        all_goals
          go_wp2_with fail
          have s0 := World.cell?_setCell_same w7 ⟨w.heap.size + 2, 0, none⟩ (.slice a7 (len (R.getD .nil)) k7) (cell_of_one hr7)
          refine bodyPost_ret (v := .tuple #[.agg #[.slice a7 (len (R.getD .nil)) k7], errV eb R.isSome]) (by simp [results, Tryd.results69, go_sem, s0]) rfl ?_
          refine ret_ty (X1.out.trans (X6.out.trans xc)) (SA_mono hV7 fun b _ hb => ?_) HS.out (by omega) rfl
          have := xb.size
          rcases hb with (hb | hb) | hb
          · exact Or.inl hb
          · exact Or.inr (by omega)
          · exact Or.inr (by omega)

theorem kterm_by (eb : Addr) (S : Nat → Prop) (L : ByteArray → F) (la : Option Addr) (ll lc : Nat) (tm : Option Nat) (mb mn : Nat) (k n : Int) (s : ByteArray) (p : List Int) (pa : Option Addr) (pc : Nat) (f : TM) (a : Option Addr) (c : Nat) (w : World)
    (hG : w.cell? ⟨1, 0, none⟩ = some (EV eb)) (hE : KM w S mb mn L) (hS : ∀ b, S b → b < w.heap.size) (hs : s.size ≤ 9223372036854775807) (hp : p.length ≤ 1000000000) (hP : PA w 0 p pa)
    (hsh : k = 1 ∨ k = 2 ∨ k = 6 ∨ (k = 7 ∧ tlen f = 1) ∨ (k ≠ 7 ∧ tlen f = 2)) (hT : ∀ l, evT L f = some l → ∀ i, i < len l → fits 4 (kid l i) = true)
    (hK : ∀ w', Ex w w' → Calls Tryd.prog 74 #[.agg #[.slice la ll lc, .map tm, .map (some mb)], .slice a (tlen f) c] w' (TysP eb S (evT L f) w')) :
    Calls Tryd.prog 69 #[.agg #[.slice la ll lc, .map tm, .map (some mb)], .agg #[.int .i64 k, .int .i64 n, .string s, .slice pa p.length pc, .slice a (tlen f) c]] w (TyP eb S (oneT L k s p (evT L f)) w) := by
  by_cases k8 : k = 8
  · subst k8
    exact kterm_8 eb S L la ll lc tm mb mn n s p pa pc f a c w hG hE hS hs hp hP (by omega) hT hK
  · exact kterm_n8 eb S L la ll lc tm mb mn k n s p pa pc f a c w hG hE hS hs hp hP k8 hsh hT hK

end Go.Proofs.YthdihpcpobhadaaDoor
