/- Walks: the type of a term with another part, by the program. Terms that are ok: of what shape they are. Walks: types that are ok, names bound to types, types of terms however deep, by the program. Walks: whether two types are the same, by the specification. Walks: the type of a name, and of a term, by the specification. -/
import Derived.Test.YtldbmlojgakieaaDoorGKT3
import Derived.Test.YtldbmlojgakieaaDoorGKT2
import Derived.Test.YtldbmlojgakieaaDoorGW7
namespace Go.Proofs.YtldbmlojgakieaaDoor

open Go.RowKit Go.Deep Go.Maps Go.WideMaps

attribute [local go_sem ↓] Go.wp_at_zero Go.wp_at_succ

set_option maxRecDepth 100000 in
set_option maxHeartbeats 4000000 in
theorem kterm_8 (eb : Addr) (S : Nat → Prop) (L : ByteArray → F) (la : Option Addr) (ll lc : Nat) (tm : Option Nat) (mb mn : Nat) (n : Int) (s : ByteArray) (p : List Int) (pa : Option Addr) (pc : Nat) (f : TM) (a : Option Addr) (c : Nat) (w : World)
    (hG : w.cell? ⟨1, 0, none⟩ = some (EV eb)) (hE : KM w S mb mn L) (hS : ∀ b, S b → b < w.heap.size) (hs : s.size ≤ 9223372036854775807) (hp : p.length ≤ 1000000000) (hP : PA w 0 p pa)
    (hsh : tlen f = 2) (hT : ∀ l, evT L f = some l → ∀ i, i < len l → fits 4 (kid l i) = true)
    (hK : ∀ w', Ex w w' → Calls Tryd.prog 40 #[.agg #[.slice la ll lc, .map tm, .map (some mb)], .slice a (tlen f) c] w' (TysP eb S (evT L f) w')) :
    Calls Tryd.prog 34 #[.agg #[.slice la ll lc, .map tm, .map (some mb)], .agg #[.int .i64 8, .int .i64 n, .string s, .slice pa p.length pc, .slice a (tlen f) c]] w (TyP eb S (oneT L 8 s p (evT L f)) w) := by
  have G : Hid (∀ w', Ex w w' → w'.cell? ⟨1, 0, none⟩ = some (EV eb)) := fun w' h => h.at hG
  have EE : Hid (∀ w', Ex w w' → KM w' S mb mn L) := fun w' h => hE.ex h
  have HS : Hid (∀ b, S b → b < w.heap.size) := hS
  have SZ : Hid (s.size ≤ 9223372036854775807) := hs
  have PL : Hid (p.length ≤ 1000000000) := hp
  have P : Hid (∀ w', Ex w w' → PA w' 0 p pa) := fun _ h => PA_below hP h
  have SH : Hid (tlen f = 2) := hsh
  have TT : Hid (∀ l, evT L f = some l → ∀ i, i < len l → fits 4 (kid l i) = true) := hT
  have K : Hid (∀ w', Ex w w' → Calls Tryd.prog 40 #[.agg #[.slice la ll lc, .map tm, .map (some mb)], .slice a (tlen f) c] w' (TysP eb S (evT L f) w')) := hK
  have N : Hid (Ex w (((w.alloc (.cells #[.slice la ll lc, .map tm, .map (some mb)] 76)).alloc (.cells #[.int .i64 8, .int .i64 n, .string s, .slice pa p.length pc, .slice a (tlen f) c] 28)).alloc (.cells #[.slice none 0 0] 32))) := ((Ex.new _ _).alloc _).alloc _
  have C : Hid (∀ w', Ex (((w.alloc (.cells #[.slice la ll lc, .map tm, .map (some mb)] 76)).alloc (.cells #[.int .i64 8, .int .i64 n, .string s, .slice pa p.length pc, .slice a (tlen f) c] 28)).alloc (.cells #[.slice none 0 0] 32)) w' → w'.cell? ⟨w.heap.size, 0, none⟩ = some (.slice la ll lc) ∧ w'.cell? ⟨w.heap.size, 1, none⟩ = some (.map tm) ∧ w'.cell? ⟨w.heap.size, 2, none⟩ = some (.map (some mb)) ∧ w'.cell? ⟨w.heap.size + 1, 0, none⟩ = some (.int .i64 8) ∧ w'.cell? ⟨w.heap.size + 1, 1, none⟩ = some (.int .i64 n) ∧ w'.cell? ⟨w.heap.size + 1, 2, none⟩ = some (.string s) ∧ w'.cell? ⟨w.heap.size + 1, 3, none⟩ = some (.slice pa p.length pc) ∧ w'.cell? ⟨w.heap.size + 1, 4, none⟩ = some (.slice a (tlen f) c) ∧ w'.heap[w.heap.size + 2]? = some (.cells #[.slice none 0 0] 32 (0, 0))) := fun w' h => ⟨h.at (((Ex.new _ _).alloc _).at (by simp)), h.at (((Ex.new _ _).alloc _).at (by simp)), h.at (((Ex.new _ _).alloc _).at (by simp)), h.at ((Ex.new _ _).at (by simp)), h.at ((Ex.new _ _).at (by simp)), h.at ((Ex.new _ _).at (by simp)), h.at ((Ex.new _ _).at (by simp)), h.at ((Ex.new _ _).at (by simp)), h.blk (heap_alloc_at _ _ (by simp))⟩
  have LN : Hid (∀ l, evT L f = some l → len l = tlen f) := fun l h => evT_len h
  clear hG hE hS hs hp hP hsh hT hK
  obtain ⟨E, hEv⟩ : ∃ E, E = evT L f := ⟨_, rfl⟩
  rw [← hEv] at TT K LN ⊢
  clear hEv
  obtain ⟨R, hR⟩ : ∃ R, R = oneT L 8 s p E := ⟨_, rfl⟩
  have RR : Hid (R = oneT L 8 s p E) := hR
  rw [← hR]
  clear hR
  go_enter Tryd.func34, Tryd.ntmps34
  go_wp2_with fail
  refine Calls.mono (K.out _ N.out) ?_
  rintro e w1 ⟨a1, c1', rfl, hV1, hb1⟩
  obtain ⟨b0, bt, b1, c0, c1, c2, c3, c4, hr⟩ := C.out w1 hb1
  have HR : Hid (w1.heap[w.heap.size + 2]? = some (.cells #[.slice none 0 0] 32 (0, 0))) := hr
  have r0 := cell_of_one hr
  have r2 := free_of_one hr
  have X1 : Hid (Ex w w1) := N.out.trans hb1
  have zW : (((w.alloc (.cells #[.slice la ll lc, .map tm, .map (some mb)] 76)).alloc (.cells #[.int .i64 8, .int .i64 n, .string s, .slice pa p.length pc, .slice a (tlen f) c] 28)).alloc (.cells #[.slice none 0 0] 32)).heap.size = w.heap.size + 3 := by simp only [World.size_alloc]
  rw [zW] at hV1
  have V1 : Hid (SA w1 (fun b => S b ∨ w.heap.size + 3 ≤ b) (E.getD .nil) a1) := hV1
  clear hV1 hb1 K C zW hr
  cases E with
  | none =>
    simp only [Option.getD_none, Option.isSome_none, errV, Bool.false_eq_true, if_false]
    go_wp2_with fail
    have s0 := World.cell?_setCell_same w1 ⟨w.heap.size + 2, 0, none⟩ (.slice none 0 0) r0
    refine bodyPost_ret (v := .tuple #[.agg #[.slice none 0 0], EV eb]) (by simp [results, Tryd.results34, go_sem, s0]) rfl ?_
    have e : R = none := RR.out
    rw [e]
    exact ret_ty (R := none) (a2 := none) (c2 := 0) X1.out (Or.inl rfl) HS.out (by omega) rfl
  | some l =>
    have TY : Hid (∀ i, i < len l → fits 4 (kid l i) = true) := TT.out l rfl
    have LL : Hid (len l = tlen f) := LN.out l rfl
    have V2 : Hid (SA w1 (fun b => S b ∨ w.heap.size + 3 ≤ b) l a1) := V1.out
    simp only [Option.getD_some, Option.isSome_some, errV, if_true]
    clear TT LN V1
    have L2 : Hid (len l = 2) := by
      have := LL.out
      have := SH.out
      show _ = _
      omega
    obtain ⟨b, o, a0, k0, a1', k1', rfl, m0, m1, hV0, hV1⟩ := SA_pair V2.out L2.out
    have NB : Hid (b ≠ w.heap.size + 2) := by
      obtain ⟨b', o', e', hs, _, _⟩ := SA_at V2.out (by have := L2.out; omega)
      cases e'
      show _ ≠ _
      rcases hs with h | h
      · have := HS.out b h; omega
      · omega
    have hl0 : (0 : Int) < (len l : Int) := by have := L2.out; omega
    have hl1 : (1 : Int) < (len l : Int) := by have := L2.out; omega
    have hN0 : Hid (0 < len l ∧ 1 < len l) := by have := L2.out; exact ⟨by omega, by omega⟩
    have zr := lt_of_block HR.out
    obtain ⟨Q, hQ⟩ : ∃ Q, partF (kid l 0) p = Q := ⟨_, rfl⟩
    have QQ : Hid (partF (kid l 0) p = Q) := hQ
    have V0' : SA w1 (fun b => (S b ∨ w.heap.size + 3 ≤ b) ∧ b < w1.heap.size) (kid l 0) a0 := SA_mono hV0 fun b hb h => ⟨h, hb⟩
    have IA : Hid (∀ w', Ex w1 w' → Calls Tryd.prog 42 #[.agg #[.slice a0 (len (kid l 0)) k0], .slice pa p.length pc, .func (.func 43) #[] #[]] w' fun e w'' => ∃ (a' : Option Addr) (cap' : Nat), e = .returned (.tuple #[.agg #[.slice a' (len (Q.getD .nil)) cap'], .bool Q.isSome]) ∧ SA w'' (fun b => (S b ∨ w.heap.size + 3 ≤ b) ∧ b < w1.heap.size) (Q.getD .nil) a' ∧ Ex w' w'') := fun w' h => by rw [← hQ]; exact partAtS_one _ p a0 k0 pa pc _ w' PL.out (SA_ex V0' h) (P.out w' (X1.out.trans h))
    have V0 : Hid (SA w1 (fun b => S b ∨ w.heap.size + 3 ≤ b) (kid l 0) a0) := hV0
    have VK : Hid (SA w1 (fun b => S b ∨ w.heap.size + 3 ≤ b) (kid l 1) a1') := hV1
    have F0 : Hid (fits 4 (kid l 0) = true) := TY.out 0 (by have := L2.out; omega)
    have F1 : Hid (fits 4 (kid l 1) = true) := TY.out 1 (by have := L2.out; omega)
    have KC : Hid (∀ w', Ex w1 w' → w'.cell? ⟨b, o, none⟩ = some (.slice a0 (len (kid l 0)) k0) ∧ w'.cell? ⟨b, o + 1, none⟩ = some (.slice a1' (len (kid l 1)) k1')) := fun w' h => ⟨h.at m0, h.at m1⟩
    clear hQ hV0 hV1 V0'
    have zr1 : w.heap.size + 1 < w1.heap.size := by omega
    have zr0 : w.heap.size < w1.heap.size := by omega
    have zb : b < w1.heap.size := World.block_lt_of_cell? _ _ m0
    go_upto_region 15 with fail
    go_cut [9, 10] from 60 to 67 (fun p9 p10 wx => p10 = .bool Q.isSome ∧ ∃ q a' c', p9 = .pointer (some ⟨q, 0, none⟩) ∧ wx.cell? ⟨q, 0, none⟩ = some (.slice a' (len (Q.getD .nil)) c') ∧ Ex w1 wx ∧ SA wx (fun b => (S b ∨ w.heap.size + 3 ≤ b) ∧ b < w1.heap.size) (Q.getD .nil) a')
    case first =>
      go_region_with (first | (go_at_call 42; refine (IA.out _ (by first | exact (Ex.refl _).drew | exact (Ex.refl _).drew.trans (Ex.new _ _))).mono ?_; rintro e w5 ⟨a5, c5, rfl, ht5, hb5⟩; have xb : Ex w1 w5 := (by refine Ex.trans ?_ hb5; first | exact (Ex.refl _).drew | exact (Ex.new _ _).drew | exact (Ex.refl _).drew.alloc _); first | (have ob : w5.heap[w1.heap.size]? = some (.cells #[.slice none 0 0] 32) := (by first | exact hb5.blk (heap_alloc_new w1.drew _) | exact hb5.blk (heap_alloc_new w1 _)); have oc := cell_of_one ob; have oz := free_of_one ob) | skip))
      all_goals
        go_wp2_with fail
        go_meet
        first
          | exact ⟨rfl, w1.heap.size, a5, c5, rfl, cell_of_one (one_setCell ob), Ex.set xb (Nat.le_refl _) _, SA_ks ht5 fun b hb _ => Below.heap_setCell _ _ _ _ (by show b ≠ w1.heap.size; have := hb.2; omega)⟩
          | exact ⟨rfl, w5.heap.size, a5, c5, rfl, World.cell?_alloc_new _ _ _ _, xb.alloc _, SA_ex ht5 (Ex.new _ _)⟩
    case rest =>
      rename World => w6
      obtain ⟨rfl, q, a5, c5, rfl, hq5, hx5, ht5⟩ := hcut
      have X6 : Hid (Ex w1 w6) := hx5
      have T5 : Hid (∀ w', Ex w6 w' → SA w' (fun b => (S b ∨ w.heap.size + 3 ≤ b) ∧ b < w1.heap.size) (Q.getD .nil) a5) := fun _ h => SA_ex ht5 h
      obtain ⟨u0, u1⟩ := KC.out w6 hx5
      have hr6 : w6.heap[w.heap.size + 2]? = some (.cells #[.slice none 0 0] 32 (0, 0)) := hx5.blk HR.out
      have HR6 : Hid _ := hr6
      have zq : q < w6.heap.size := World.block_lt_of_cell? _ _ hq5
      have zs := hx5.size
      clear hx5 ht5 r0 r2 m0 m1
      have r0 := cell_of_one hr6
      have r2 := free_of_one hr6
      have hz2 : w.heap.size + 2 < w6.heap.size := by omega
      have hzb : b < w6.heap.size := by omega
      clear zs hr6 IA
      cases Q with
      | none =>
        have RV : R = ifT false (kid l 0) := RR.out.trans (oneT_8n QQ.out)
        have IT : Hid (∀ w', Ex w6 w' → Calls Tryd.prog 41 #[.agg #[.slice a0 (len (kid l 0)) k0], .bool false] w' (TyP eb (fun b => S b ∨ w.heap.size + 3 ≤ b) R w')) := fun w' h => by rw [RV]; exact typeIf_any eb _ _ a0 k0 false w' (G.out w' (X1.out.trans (X6.out.trans h))) (SA_ex V0.out (X6.out.trans h))
        clear RV
        simp only [Option.getD_none, Option.isSome_none] at hq5 ⊢
        go_wp2_with fail
        have HU : Hid (w6.cell? ⟨b, o, none⟩ = some (.slice a0 (len (kid l 0)) k0)) := u0
        obtain ⟨hn0, hn1⟩ := hN0.out
        refine wp_region_held_drew (S := fun w' => Ex w w' ∧ w'.cell? ⟨b, o, none⟩ = some (.slice a0 (len (kid l 0)) k0)) (by kernel_rfl) ⟨(X1.out.trans X6.out).drew, HU.out⟩ (fun hHeld => ?_)
        refine wpAnyH_take (i := 0) (v := ?_) rfl (by kernel_rfl) (by kernel_rfl) (by kernel_rfl) (fun _ _ _ h => h) (Or.inl ⟨by rfl, ?_⟩) (by assumption) ?_
        rotate_left
        · (intro w' hSw; (try dsimp only at hSw); go_simp) <;> with_reducible rfl
        change wpAnyH Tryd.prog _ _ _ _ _ _ (Act.put _ (some 68) _) _
        (try simp only [Act.put, List.setIfInBounds_toArray, List.set_cons_zero, List.set_cons_succ])
        refine wpAnyH_take (i := 1) (v := ?_) rfl (by kernel_rfl) (by kernel_rfl) (by kernel_rfl) (fun _ _ _ h => h) (Or.inl ⟨by rfl, ?_⟩) (by assumption) ?_
        rotate_left
        · (intro w' hSw; (try dsimp only at hSw); go_simp) <;> with_reducible rfl
        change wpAnyH Tryd.prog _ _ _ _ _ _ (Act.put _ (some 69) _) _
        (try simp only [Act.put, List.setIfInBounds_toArray, List.set_cons_zero, List.set_cons_succ])
        refine wpAnyH_take (i := 2) (v := ?_) rfl (by kernel_rfl) (by kernel_rfl) (by kernel_rfl) (fun _ _ _ h => h) (Or.inl ⟨by rfl, ?_⟩) (by assumption) ?_
        rotate_left
        · (intro w' hSw; (try dsimp only at hSw); go_simp) <;> with_reducible rfl
        change wpAnyH Tryd.prog _ _ _ _ _ _ (Act.put _ (some 70) _) _
        (try simp only [Act.put, List.setIfInBounds_toArray, List.set_cons_zero, List.set_cons_succ])
        refine wpAnyH_take (i := 3) (v := ?_) rfl (by kernel_rfl) (by kernel_rfl) (by kernel_rfl) (fun _ _ _ h => h) (Or.inl ⟨by rfl, ?_⟩) (by assumption) ?_
        rotate_left
        · (intro w' hSw; (try dsimp only at hSw); go_simp) <;> with_reducible rfl
        change wpAnyH Tryd.prog _ _ _ _ _ _ (Act.put _ (some 71) _) _
        (try simp only [Act.put, List.setIfInBounds_toArray, List.set_cons_zero, List.set_cons_succ])
        refine wpAnyH_take (i := 4) (v := ?_) rfl (by kernel_rfl) (by kernel_rfl) (by kernel_rfl) (fun _ _ _ h => h) (Or.inl ⟨by rfl, ?_⟩) (by assumption) ?_
        rotate_left
        · (intro w' hSw; (try dsimp only at hSw); go_simp) <;> with_reducible rfl
        change wpAnyH Tryd.prog _ _ _ _ _ _ (Act.put _ (some 72) _) _
        (try simp only [Act.put, List.setIfInBounds_toArray, List.set_cons_zero, List.set_cons_succ])
        refine wpAnyH_take (i := 5) (v := undef) rfl (by kernel_rfl) (by kernel_rfl) (by kernel_rfl) (fun _ _ _ h => h) (Or.inr ⟨by kernel_rfl, rfl⟩) (by assumption) ?_
        change wpAnyH Tryd.prog _ _ _ _ _ _ (Act.put _ (some 73) _) _
        (try simp only [Act.put, List.setIfInBounds_toArray, List.set_cons_zero, List.set_cons_succ])
        refine wpAnyH_take (i := 6) (v := undef) rfl (by kernel_rfl) (by kernel_rfl) (by kernel_rfl) (fun _ _ _ h => h) (Or.inr ⟨by kernel_rfl, rfl⟩) (by assumption) ?_
        change wpAnyH Tryd.prog _ _ _ _ _ _ (Act.put _ (some 74) _) _
        (try simp only [Act.put, List.setIfInBounds_toArray, List.set_cons_zero, List.set_cons_succ])
        refine wpAnyH_take (i := 7) (v := undef) rfl (by kernel_rfl) (by kernel_rfl) (by kernel_rfl) (fun _ _ _ h => h) (Or.inr ⟨by kernel_rfl, rfl⟩) (by assumption) ?_
        change wpAnyH Tryd.prog _ _ _ _ _ _ (Act.put _ (some 75) _) _
        (try simp only [Act.put, List.setIfInBounds_toArray, List.set_cons_zero, List.set_cons_succ])
        refine wpAnyH_take (i := 8) (v := undef) rfl (by kernel_rfl) (by kernel_rfl) (by kernel_rfl) (fun _ _ _ h => h) (Or.inr ⟨by kernel_rfl, rfl⟩) (by assumption) ?_
        change wpAnyH Tryd.prog _ _ _ _ _ _ (Act.put _ (some 76) _) _
        (try simp only [Act.put, List.setIfInBounds_toArray, List.set_cons_zero, List.set_cons_succ])
        refine wpAnyH_take (i := 9) (v := undef) rfl (by kernel_rfl) (by kernel_rfl) (by kernel_rfl) (fun _ _ _ h => h) (Or.inr ⟨by kernel_rfl, rfl⟩) (by assumption) ?_
        change wpAnyH Tryd.prog _ _ _ _ _ _ (Act.put _ (some 77) _) _
        (try simp only [Act.put, List.setIfInBounds_toArray, List.set_cons_zero, List.set_cons_succ])
        refine wpAnyH_take (i := 10) (v := ?_) rfl (by kernel_rfl) (by kernel_rfl) (by kernel_rfl) (fun _ _ _ h => h) (Or.inl ⟨by rfl, ?_⟩) (by assumption) ?_
        rotate_left
        · (intro w' hSw; (try dsimp only at hSw); go_simp) <;> with_reducible rfl
        change wpAnyH Tryd.prog _ _ _ _ _ _ (Act.put _ (some 78) _) _
        (try simp only [Act.put, List.setIfInBounds_toArray, List.set_cons_zero, List.set_cons_succ])
        refine wpAnyH_ready (rs := [11]) (by kernel_rfl) (by simp) ?_
        refine AllReadyH.cons (i := 11) rfl (fun K hK => ?_) AllReadyH.nil
        go_simp
        refine (IT.out _ (Ex.refl _).drew).mono ?_
        rintro e w7 ⟨a7, k7, rfl, hV7, hb7⟩
        have xc : Ex w6 w7 := Ex.trans (Ex.refl _).drew hb7
        have hr7 := xc.blk HR6.out
        have XC : Hid (Ex w6 w7) := xc
        have HR7 : Hid _ := hr7
        have V7 : Hid _ := hV7
        clear r0 r2 hV7 hHeld
        have r0 := cell_of_one hr7
        have r2 := free_of_one hr7
        go_wp2_with fail
        refine hK.out _ _ ?_ (fun hHeld => ?_)
        · exact ⟨X1.out.trans (X6.out.trans XC.out), XC.out.at HU.out⟩
        clear hK
        (try simp only [Act.put, List.setIfInBounds_toArray, List.set_cons_zero, List.set_cons_succ])
        refine wpAnyH_take (i := 12) (v := ?_) rfl (by kernel_rfl) (by kernel_rfl) (by kernel_rfl) (fun _ _ _ h => h) (Or.inl ⟨by rfl, ?_⟩) (by assumption) ?_
        rotate_left
        · (intro w' hSw; (try dsimp only at hSw); go_simp) <;> with_reducible rfl
        change wpAnyH Tryd.prog _ _ _ _ _ _ (Act.put _ (some 80) _) _
        (try simp only [Act.put, List.setIfInBounds_toArray, List.set_cons_zero, List.set_cons_succ])
        refine wpAnyH_take (i := 13) (v := ?_) rfl (by kernel_rfl) (by kernel_rfl) (by kernel_rfl) (fun _ _ _ h => h) (Or.inl ⟨by rfl, ?_⟩) (by assumption) ?_
        rotate_left
        · (intro w' hSw; (try dsimp only at hSw); go_simp) <;> with_reducible rfl
        change wpAnyH Tryd.prog _ _ _ _ _ _ (Act.put _ (some 81) _) _
        (try simp only [Act.put, List.setIfInBounds_toArray, List.set_cons_zero, List.set_cons_succ])
        refine wpAnyH_ready (rs := [14]) (by kernel_rfl) (by simp) ?_
        refine AllReadyH.cons (i := 14) rfl (fun K hK => ?_) AllReadyH.nil
        go_simp
        go_wp2_with fail
        refine hK.out _ _ ?_ (fun hHeld => ?_)
        · exact ⟨(X1.out.trans (X6.out.trans XC.out)).set (by show w.heap.size ≤ w.heap.size + 2; omega) _, (World.cell?_setCell_other _ _ _ _ (fun e => NB.out (congrArg Addr.block e).symm)).trans (XC.out.at HU.out)⟩
        clear hK
        (try simp only [Act.put, List.setIfInBounds_toArray, List.set_cons_zero, List.set_cons_succ])
        refine wpAnyH_take (i := 15) (v := ?_) rfl (by kernel_rfl) (by kernel_rfl) (by kernel_rfl) (fun _ _ _ h => h) (Or.inl ⟨by rfl, ?_⟩) (by assumption) ?_
        rotate_left
        · (intro w' hSw; (try dsimp only at hSw); go_simp) <;> with_reducible rfl
        change wpAnyH Tryd.prog _ _ _ _ _ _ (Act.put _ (some 5) _) _
        (try simp only [Act.put, List.setIfInBounds_toArray, List.set_cons_zero, List.set_cons_succ])
        refine wpAnyH_done (by kernel_rfl) ?_ _
        go_wp2_with fail
        have s0 := World.cell?_setCell_same w7 ⟨w.heap.size + 2, 0, none⟩ (.slice a7 (len (R.getD .nil)) k7) (cell_of_one HR7.out)
        refine bodyPost_ret (v := .tuple #[.agg #[.slice a7 (len (R.getD .nil)) k7], errV eb R.isSome]) (by simp [results, Tryd.results34, go_sem, s0]) rfl ?_
        refine ret_ty (X1.out.trans (X6.out.trans XC.out)) (SA_mono V7.out fun b _ hb => ?_) HS.out (by omega) rfl
        have hz : w6.drew.heap.size = w6.heap.size := rfl
        rcases hb with (hb | hb) | hb
        · exact Or.inl hb
        · exact Or.inr (by omega)
        · rw [hz] at hb; exact Or.inr (by omega)
      | some g =>
        have RV : R = ifT (eqT g (kid l 1)) (kid l 0) := RR.out.trans (oneT_8s QQ.out)
        have FG : fits 4 g = true := part_fits p _ g F0.out QQ.out
        obtain ⟨z, hz⟩ : ∃ z, eqT g (kid l 1) = z := ⟨_, rfl⟩
        rw [hz] at RV
        have IS : Hid (∀ w', Ex w6 w' → Calls Tryd.prog 44 #[.agg #[.slice a5 (len g) c5], .agg #[.slice a1' (len (kid l 1)) k1']] w' fun e w'' => e = .returned (.bool z) ∧ Ex w' w'') := fun w' h => by
          have := typeSame_any 4 g (kid l 1) a5 a1' c5 k1' 0 0 w' FG F1.out (SA_mono (T5.out w' h) fun _ _ _ => Nat.zero_le _) (SA_mono (SA_ex VK.out (X6.out.trans h)) fun _ _ _ => Nat.zero_le _)
          rw [hz] at this; exact this
        have IT : Hid (∀ w', Ex w6 w' → Calls Tryd.prog 41 #[.agg #[.slice a0 (len (kid l 0)) k0], .bool z] w' (TyP eb (fun b => S b ∨ w.heap.size + 3 ≤ b) R w')) := fun w' h => by rw [RV]; exact typeIf_any eb _ _ a0 k0 z w' (G.out w' (X1.out.trans (X6.out.trans h))) (SA_ex V0.out (X6.out.trans h))
        have CC : Hid (∀ w', Ex w6 w' → w'.cell? ⟨b, o, none⟩ = some (.slice a0 (len (kid l 0)) k0) ∧ w'.cell? ⟨w.heap.size + 2, 0, none⟩ = some (.slice none 0 0) ∧ w'.frozen? ⟨w.heap.size + 2, 0, none⟩ = false) := fun w' h => ⟨h.at u0, cell_of_one (h.blk HR6.out), free_of_one (h.blk HR6.out)⟩
        clear RV hz FG
        simp only [Option.getD_some, Option.isSome_some] at hq5 ⊢
        go_wp2_with fail
        go_region_with (first | ((first | (go_at_call 44; refine (IS.out _ (Ex.refl _).drew).mono ?_) | (rw [if_pos (by rfl)]; go_simp; go_at_call 44; refine (IS.out _ (Ex.refl _).drew).mono ?_)); rintro e w5 ⟨rfl, hb5⟩; have xb : Ex w6 w5 := Ex.trans (Ex.refl _).drew hb5; clear u0 r0 r2; obtain ⟨u0, r0, r2⟩ := CC.out w5 xb) | (go_at_call 41; refine (IT.out _ xb).mono ?_; rintro e w7 ⟨a7, k7, rfl, hV7, hb7⟩; have xc : Ex w6 w7 := Ex.trans xb hb7; have hr7 := xc.blk HR6.out; have r0 := cell_of_one hr7; have r2 := free_of_one hr7))
        all_goals
          go_wp2_with fail
          have s0 := World.cell?_setCell_same w7 ⟨w.heap.size + 2, 0, none⟩ (.slice a7 (len (R.getD .nil)) k7) (cell_of_one hr7)
          refine bodyPost_ret (v := .tuple #[.agg #[.slice a7 (len (R.getD .nil)) k7], errV eb R.isSome]) (by simp [results, Tryd.results34, go_sem, s0]) rfl ?_
          refine ret_ty (X1.out.trans (X6.out.trans xc)) (SA_mono hV7 fun b _ hb => ?_) HS.out (by omega) rfl
          have := xb.size
          rcases hb with (hb | hb) | hb
          · exact Or.inl hb
          · exact Or.inr (by omega)
          · exact Or.inr (by omega)

theorem kterm_by (eb : Addr) (S : Nat → Prop) (L : ByteArray → F) (la : Option Addr) (ll lc : Nat) (tm : Option Nat) (mb mn : Nat) (k n : Int) (s : ByteArray) (p : List Int) (pa : Option Addr) (pc : Nat) (f : TM) (a : Option Addr) (c : Nat) (w : World)
    (hG : w.cell? ⟨1, 0, none⟩ = some (EV eb)) (hE : KM w S mb mn L) (hS : ∀ b, S b → b < w.heap.size) (hs : s.size ≤ 9223372036854775807) (hp : p.length ≤ 1000000000) (hP : PA w 0 p pa)
    (hsh : k = 1 ∨ k = 2 ∨ k = 6 ∨ (k = 7 ∧ tlen f = 1) ∨ (k ≠ 7 ∧ tlen f = 2)) (hT : ∀ l, evT L f = some l → ∀ i, i < len l → fits 4 (kid l i) = true)
    (hK : ∀ w', Ex w w' → Calls Tryd.prog 40 #[.agg #[.slice la ll lc, .map tm, .map (some mb)], .slice a (tlen f) c] w' (TysP eb S (evT L f) w')) :
    Calls Tryd.prog 34 #[.agg #[.slice la ll lc, .map tm, .map (some mb)], .agg #[.int .i64 k, .int .i64 n, .string s, .slice pa p.length pc, .slice a (tlen f) c]] w (TyP eb S (oneT L k s p (evT L f)) w) := by
  by_cases k8 : k = 8
  · subst k8
    exact kterm_8 eb S L la ll lc tm mb mn n s p pa pc f a c w hG hE hS hs hp hP (by omega) hT hK
  · exact kterm_n8 eb S L la ll lc tm mb mn k n s p pa pc f a c w hG hE hS hs hp hP k8 hsh hT hK

end Go.Proofs.YtldbmlojgakieaaDoor

namespace Go.Proofs.YtldbmlojgakieaaDoor

open Go.RowKit Go.Deep

theorem tok_shape {k n : Int} {s : ByteArray} {p : List Int} {l : Nat} (h : tokB k n s p l = true) : (k = 1 → 0 ≤ n ∧ n ≤ 9999) ∧ l ≤ 2 ∧ (k = 1 ∨ k = 2 ∨ k = 6 ∨ (k = 7 ∧ l = 1) ∨ (k ≠ 7 ∧ l = 2)) := by
  by_cases h1 : k = 1
  · subst h1
    simp only [tokB_1, Bool.and_eq_true, decide_eq_true_eq] at h
    exact ⟨fun _ => ⟨h.2.2.2.1, h.2.2.2.2⟩, by omega, Or.inl rfl⟩
  by_cases h2 : k = 2
  · subst h2
    simp only [tokB_2, Bool.and_eq_true, decide_eq_true_eq] at h
    exact ⟨fun e => absurd e h1, by omega, Or.inr (Or.inl rfl)⟩
  by_cases h3 : k = 3 ∨ k = 4 ∨ k = 5 ∨ k = 6
  · rw [tokB_3 h3] at h
    simp only [Bool.and_eq_true, decide_eq_true_eq] at h
    exact ⟨fun e => absurd e h1, by omega, by omega⟩
  by_cases h7 : k = 7
  · subst h7
    simp only [tokB_7, Bool.and_eq_true, decide_eq_true_eq] at h
    exact ⟨fun e => absurd e h1, by omega, by omega⟩
  by_cases h8 : k = 8
  · subst h8
    simp only [tokB_8, Bool.and_eq_true, decide_eq_true_eq] at h
    exact ⟨fun e => absurd e h1, by omega, by omega⟩
  · rw [tokB_o (by omega)] at h; cases h

theorem kid_tok {ns : List ByteArray} {d : Nat} {f : TM} (h : kidsB ns (d + 1) f = true) {j : Nat} (hj : j < tlen f) : tokB (tkind f j) (tnum f j) (tname f j) (tpath f j) (tlen (tkid f j)) = true ∧ kidsB ns d (tkid f j) = true ∧ (tkind f j = 2 → hasB ns (tname f j) = true) := by
  simp only [kidsB, List.all_eq_true] at h
  have := h j (List.mem_range.2 hj)
  rw [kidB, termB_tok] at this
  simp only [Bool.and_eq_true] at this
  exact ⟨this.1, this.2.2, fun e => by have := this.2.1; rw [decide_eq_true e] at this; simpa using this⟩
theorem kids_zero {ns : List ByteArray} {f : TM} (h : kidsB ns 0 f = true) : tlen f = 0 := by
  simp only [kidsB, List.all_eq_true] at h
  by_cases h0 : tlen f = 0
  · exact h0
  · have := h 0 (List.mem_range.2 (by omega))
    cases this
end Go.Proofs.YtldbmlojgakieaaDoor

namespace Go.Proofs.YtldbmlojgakieaaDoor

open Go.RowKit Go.Deep Go.Maps Go.WideMaps

attribute [local go_sem ↓] Go.wp_at_zero Go.wp_at_succ

/-- All types of a list are ok. -/
def fitAll (l : F) : Bool := (List.range (len l)).all fun i => fits 4 (kid l i)
theorem fitAll_no {l : F} {i : Nat} (h : i < len l) (hb : fits 4 (kid l i) = false) : fitAll l = false := by
  simp only [fitAll]
  rw [List.all_eq_false]
  exact ⟨i, List.mem_range.2 h, by rw [hb]; simp⟩
theorem fitAll_yes {l : F} (h : ∀ i, i < len l → fits 4 (kid l i) = true) : fitAll l = true := by
  simp only [fitAll]
  rw [List.all_eq_true]
  exact fun i hi => h i (List.mem_range.1 hi)
theorem fitAll_at {l : F} (h : fitAll l = true) {i : Nat} (hi : i < len l) : fits 4 (kid l i) = true := by
  simp only [fitAll, List.all_eq_true] at h
  exact h i (List.mem_range.2 hi)

set_option maxRecDepth 100000 in
set_option maxHeartbeats 2000000 in
theorem typesOk_any (l : F) (a : Option Addr) (c : Nat) (w : World) (hl : len l ≤ 1000000000) (hT : TA w 0 l a) :
    Calls Tryd.prog 30 #[.slice a (len l) c] w fun e w' => e = .returned (.bool (fitAll l)) ∧ Ex w w' := by
  have T : Hid (∀ w', Ex w w' → TA w' 0 l a) := fun _ h => TA_below hT h
  clear hT
  obtain ⟨R, hR⟩ : ∃ R, R = fitAll l := ⟨_, rfl⟩
  have RR : Hid (R = fitAll l) := hR
  rw [← hR]
  clear hR
  go_enter Tryd.func30, Tryd.ntmps30
  go_wp2_with fail
  go_loopw [4, 7] (fun _ i wr => ∃ j : Nat, j ≤ len l ∧ i = .int .i64 j ∧ (∀ i, i < j → fits 4 (kid l i) = true) ∧ Ex w wr) (fun _ i _ => len l - (intOf i).toNat)
  case atStart => exact ⟨0, by omega, rfl, fun j hj => by omega, Ex.refl _⟩
  case round =>
    obtain ⟨j, hj, rfl, hall, hx⟩ := hrel
    have A : Hid (∀ i, i < j → fits 4 (kid l i) = true) := hall
    have E : Hid (Ex w wr) := hx
    clear hall hx
    by_cases hlt : j < len l
    · obtain ⟨b, o, rfl, _, hbs, hk⟩ := TA_at (T.out wr E.out) (by omega)
      obtain ⟨a1, c1, hc1, ht1⟩ := hk j hlt
      have IT : Hid (∀ w', Ex wr w' → Calls Tryd.prog 37 #[.agg #[.slice a1 (len (kid l j)) c1]] w' fun e w'' => e = .returned (.bool (fits 4 (kid l j))) ∧ Ex w' w'') := fun w' h => iTypeOk_any _ a1 c1 0 w' (TA_below ht1 h)
      have V : Hid (fits 4 (kid l j) = false → R = false) := fun h => RR.out.trans (fitAll_no hlt h)
      have U : Hid (fits 4 (kid l j) = true → ∀ i, i < j + 1 → fits 4 (kid l i) = true) := fun h => upto_succ A.out h
      clear hk ht1
      obtain ⟨z, hz⟩ : ∃ z, fits 4 (kid l j) = z := ⟨_, rfl⟩
      rw [hz] at IT V U
      clear hz
      go_wp2_with fail
      refine (IT.out _ (Ex.new _ _)).mono ?_
      rintro e w1 ⟨rfl, hb1⟩
      have E1 : Hid (Ex w w1) := E.out.trans ((Ex.new _ _).trans hb1)
      clear hb1 IT
      cases z with
      | false =>
        have HR : Hid (R = false) := V.out rfl
        go_wp2_with fail
        go_ret
        exact ⟨ret_b HR.out.symm, E1.out⟩
      | true =>
        have HU : Hid _ := U.out rfl
        go_wp2_with fail
        go_roundw
        case rel => exact ⟨j + 1, by omega, by go_num, HU.out, E1.out⟩
        case measure => simp [intOf]; omega
    · have HR : Hid (R = true) := RR.out.trans (fitAll_yes fun i hi => A.out i (by omega))
      go_wp2_with fail
      go_ret
      exact ⟨ret_b HR.out.symm, E.out⟩

/-- The types of names, some bound anew. -/
def setAll (L : ByteArray → F) (ns : List ByteArray) (l : F) : Nat → ByteArray → F
  | 0 => L
  | k + 1 => setK (setAll L ns l k) (ns.getD k ⟨#[]⟩) (kid l k)

/-- Behind names that were bound. -/
def BdP (S : Nat → Prop) (mb n : Nat) (L : ByteArray → F) (ns : List ByteArray) (l : F) (w : World) (e : Ending) (w' : World) : Prop := e = .returned (.tuple #[]) ∧ KM w' S mb (n + ns.length) (setAll L ns l ns.length) ∧ Fr mb w w'
set_option maxRecDepth 100000 in
set_option maxHeartbeats 2000000 in
theorem bindEachT_any (S : Nat → Prop) (mb n : Nat) (L : ByteArray → F) (ns : List ByteArray) (xa : Option Addr) (xc : Nat) (l : F) (ta : Option Addr) (tc : Nat) (w : World) (hC : KM w S mb n L) (hS : ¬ S mb) (hX : ∀ w', Fr mb w w' → XA w' 0 ns xa) (hz : XLm ns) (hV : SA w S l ta) (hlen : ns.length = len l) (hn : n + ns.length ≤ 999999) :
    Calls Tryd.prog 33 #[.map (some mb), .slice xa ns.length xc, .slice ta (len l) tc] w (BdP S mb n L ns l w) := by
  have X : Hid (∀ w', Fr mb w w' → XA w' 0 ns xa) := hX
  have Z : Hid (XLm ns) := hz
  have V : Hid (∀ w', Fr mb w w' → SA w' S l ta) := fun w' h => SA_ks hV fun b hs hlt => h.block b hlt (fun e => hS (e ▸ hs))
  have NS : Hid (¬ S mb) := hS
  have C0 : Hid (KM w S mb n L) := hC
  have LE : Hid (ns.length = len l) := hlen
  clear hC hX hz hV hS hlen
  go_enter Tryd.func33, Tryd.ntmps33
  go_wp2_with fail
  go_loopw [6, 7, 10] (fun _ _ i wr => ∃ k : Nat, k ≤ ns.length ∧ i = .int .i64 k ∧ KM wr S mb (n + k) (setAll L ns l k) ∧ Fr mb w wr) (fun _ _ i _ => ns.length - (intOf i).toNat)
  case atStart => exact ⟨0, Nat.zero_le _, rfl, C0.out, Fr.refl _ _⟩
  case round =>
    obtain ⟨k, hk, rfl, hCk, hF⟩ := hrel
    have CK : Hid (KM wr S mb (n + k) (setAll L ns l k)) := hCk
    have F : Hid (Fr mb w wr) := hF
    clear hF hCk
    by_cases hlt : k < ns.length
    · obtain ⟨b, o, rfl, hbs, _, hc⟩ := XA_at (X.out wr F.out) (by omega)
      have ck := hc k hlt
      have hsz := Z.out k hlt
      obtain ⟨b', o', rfl, _, hbs', hk'⟩ := SA_at (V.out wr F.out) (by have := LE.out; omega)
      obtain ⟨a1, c1, hc1, ht1⟩ := hk' k (by have := LE.out; omega)
      have T1 : Hid (SA wr S (kid l k) a1) := ht1
      have i2 : (k : Int) < (len l : Int) := by have := LE.out; omega
      have SE : Hid (setAll L ns l (k + 1) = setK (setAll L ns l k) (ns.getD k ⟨#[]⟩) (kid l k)) := rfl
      obtain ⟨s, hs⟩ : ∃ s, ns.getD k ⟨#[]⟩ = s := ⟨_, rfl⟩
      rw [hs] at ck hsz SE
      have SZ : Hid _ := hsz
      clear hc hs hk' ht1 hsz
      go_wp2_with (at_mapUpdate; refine wpList_bindT rfl _ _ _ rfl S mb (n + k) (setAll L ns l k) s SZ.out rfl CK.out NS.out (by omega) rfl (kid l k) a1 c1 rfl T1.out ?_)
      intro w1 hC1 hF1
      have CN : Hid (KM w1 S mb (n + (k + 1)) (setAll L ns l (k + 1))) := by
        show KM _ _ _ _ _
        rw [SE.out, ← Nat.add_assoc]; exact hC1
      have F1 : Hid (Fr mb w w1) := F.out.trans hF1
      clear hC1 hF1 ck CK
      go_wp2_with fail
      go_roundw
      case rel => exact ⟨k + 1, by omega, by go_num, CN.out, F1.out⟩
      case measure => simp [intOf]; omega
    · have CE : Hid (KM wr S mb (n + ns.length) (setAll L ns l ns.length)) := by
        show KM _ _ _ _ _
        have e : k = ns.length := by omega
        have := CK.out
        rw [e] at this; exact this
      go_wp2_with fail
      go_end0
      exact ⟨rfl, CE.out, F.out⟩

theorem one_fit {L : ByteArray → F} {k : Int} {s : ByteArray} {p : List Int} {l v : F} {m : Nat} (hL : ∀ s, fits 4 (L s) = true) (hl : ∀ i, i < len l → fits 4 (kid l i) = true) (hm : len l = m) (hsh : k = 1 ∨ k = 2 ∨ k = 6 ∨ (k = 7 ∧ m = 1) ∨ (k ≠ 7 ∧ m = 2)) (h : oneT L k s p (some l) = some v) : fits 4 v = true := by
  by_cases h1 : k = 1
  · subst h1; cases h; rfl
  by_cases h2 : k = 2
  · subst h2; cases h; exact hL s
  by_cases h6 : k = 6
  · subst h6
    rw [oneT_6] at h
    unfold ifT at h
    split at h
    · rename_i hf; cases h; exact hf
    · cases h
  by_cases h7 : k = 7
  · subst h7
    rw [oneT_7] at h
    exact part_fits p _ v (hl 0 (by omega)) h
  by_cases h8 : k = 8
  · subst h8
    cases hp : partF (kid l 0) p with
    | none => rw [oneT_8n hp] at h; cases h
    | some g =>
      rw [oneT_8s hp] at h
      unfold ifT at h
      split at h
      · cases h; exact hl 0 (by omega)
      · cases h
  · rw [oneT_o l h1 h2 h6 h7 h8] at h
    unfold ifT at h
    split at h
    · cases h; rfl
    · cases h
theorem evt_fit {L : ByteArray → F} (hL : ∀ s, fits 4 (L s) = true) (ns : List ByteArray) : ∀ (d : Nat) (f : TM), kidsB ns d f = true → ∀ l, evT L f = some l → ∀ i, i < len l → fits 4 (kid l i) = true := by
  intro d
  induction d with
  | zero =>
    intro f h l hl i hi
    have hn := evT_len hl
    rw [kids_zero h] at hn
    omega
  | succ d ih =>
    intro f h l hl i hi
    have hn := evT_len hl
    have he := evT_at hl (j := i) (by omega)
    obtain ⟨t1, t2, _⟩ := kid_tok h (j := i) (by omega)
    unfold evTAt at he
    cases h3 : evT L (tkid f i) with
    | none => rw [h3] at he; cases he
    | some q =>
      rw [h3] at he
      exact one_fit hL (ih _ t2 q h3) (evT_len h3) (tok_shape t1).2.2 he

theorem kterms_any (eb : Addr) (S : Nat → Prop) (L : ByteArray → F) (hL : ∀ s, fits 4 (L s) = true) (la : Option Addr) (ll lc : Nat) (tm : Option Nat) (mb mn : Nat) (ns : List ByteArray) : ∀ (d : Nat) (f : TM) (a : Option Addr) (c : Nat) (w : World), w.cell? ⟨1, 0, none⟩ = some (EV eb) → KM w S mb mn L → (∀ b, S b → b < w.heap.size) →
    MA w 0 f a → tlen f ≤ 100000000 → TSm f → TLm f → kidsB ns d f = true → Calls Tryd.prog 40 #[.agg #[.slice la ll lc, .map tm, .map (some mb)], .slice a (tlen f) c] w (TysP eb S (evT L f) w) := by
  intro d
  induction d with
  | zero =>
    intro f a c w _ _ hS hM hl _ _ hk
    exact kterms_by eb S L la ll lc tm mb f a c w hM hl hS fun j hj => by rw [kids_zero hk] at hj; omega
  | succ d ih =>
    intro f a c w hG hE hS hM hl hsm hlm hk
    refine kterms_by eb S L la ll lc tm mb f a c w hM hl hS fun j hj pa pc a' c' w' hx hp hpc hm => ?_
    obtain ⟨g1, g2, g3⟩ := TSm_kid hsm j hj
    obtain ⟨h1, h2, h3, h4⟩ := TLm_at hlm j hj
    obtain ⟨t1, t2, _⟩ := kid_tok hk hj
    obtain ⟨s1, s2, s3⟩ := tok_shape t1
    have hS' : ∀ b, S b → b < w'.heap.size := fun b hb => Nat.lt_of_lt_of_le (hS b hb) hx.size
    exact kterm_by eb S L la ll lc tm mb mn _ _ _ _ pa pc _ a' c' w' (hx.at hG) (hE.ex hx) hS' h1 g1 hp s3 (evt_fit hL ns d _ t2) fun w2 hx2 => ih _ a' c' w2 ((hx.trans hx2).at hG) (hE.ex (hx.trans hx2)) (fun b hb => Nat.lt_of_lt_of_le (hS' b hb) hx2.size) (MA_below hm hx2) (by omega) g3 h4 t2

end Go.Proofs.YtldbmlojgakieaaDoor

namespace Go.Proofs.YtldbmlojgakieaaDoor

open Go.RowKit Go.Deep

attribute [local go_sem ↓] Go.wp_at_zero Go.wp_at_succ

set_option maxRecDepth 100000 in
set_option maxHeartbeats 2000000 in
theorem l1Same_any : ∀ (d : Nat) (f g : F) (a a' : Option Addr) (c c' lo lo' : Nat) (w : World), dep f < d → len f ≤ 1000000000 → Sm f → TA w lo f a → TA w lo' g a' →
    Calls Tryd.prog 28 #[.agg #[.slice a (len f) c], .agg #[.slice a' (len g) c']] w fun e w' => e = .returned (.bool (eqT f g)) ∧ Ex w w' := by
  intro d
  induction d with
  | zero =>
    intro f g a a' c c' lo lo' w hd hl hs hT hT'
    omega
  | succ d ih =>
    intro f g a a' c c' lo lo' w hd hl hs hT hT'
    have T : Hid (TA w lo f a) := hT
    have T' : Hid (TA w lo' g a') := hT'
    have I : Hid _ := ih
    have SS : Hid (Sm f) := hs
    clear hT hT' ih hs
    by_cases hlen : len f = len g
    · have e0 : ((len f : Int) != (len g : Int)) = false := by simp [hlen]
      have hle : len f ≤ len g := by omega
      have hge : len g ≤ len f := by omega
      have HL : Hid (len f = len g) := hlen
      clear hlen
      go_enter Tryd.func28, Tryd.ntmps28
      go_wp2_with fail
      go_loopw [5] (fun i wr => ∃ k : Nat, k ≤ len f ∧ i = .int .i64 k ∧ Ex ((w.alloc (.cells #[.slice a (len f) c] 32)).alloc (.cells #[.slice a' (len g) c'] 32)) wr ∧ ∀ j, j < k → eqT (kid f j) (kid g j) = true) (fun i _ => len f - (intOf i).toNat)
      case atStart => exact ⟨0, Nat.zero_le _, rfl, Ex.refl _, fun j hj => by omega⟩
      case round =>
        obtain ⟨k, hk, rfl, hx, hfit⟩ := hrel
        have hbx : wr.cell? ⟨w.heap.size, 0, none⟩ = some (.slice a (len f) c) := Ex.at hx (Ex.at (Ex.new _ _) (World.cell?_alloc_new _ _ _ _))
        have hbx' : wr.cell? ⟨w.heap.size + 1, 0, none⟩ = some (.slice a' (len g) c') := Ex.at hx (World.cell?_alloc_at _ _ _ _ (by simp))
        have hw : Ex w wr := ((Ex.new _ _).alloc _).trans hx
        have FT : Hid (∀ j, j < k → eqT (kid f j) (kid g j) = true) := hfit
        clear hfit
        by_cases hlt : k < len f
        · obtain ⟨b, o, rfl, hlo, hbs, hkk⟩ := TA_at (TA_below T.out hw) (by omega)
          obtain ⟨a1, c1, hc1, ht1⟩ := hkk k hlt
          obtain ⟨b', o', rfl, hlo', hbs', hkk'⟩ := TA_at (TA_below T'.out hw) (by omega)
          obtain ⟨a2, c2, hc2, ht2⟩ := hkk' k (by omega)
          have T1 : Hid (∀ w', Ex wr w' → TA w' lo (kid f k) a1) := fun _ h => TA_below ht1 h
          have T2 : Hid (∀ w', Ex wr w' → TA w' lo' (kid g k) a2) := fun _ h => TA_below ht2 h
          have KS : Hid (∀ w', Ex wr w' → (Ex wr w' ∧ w'.cell? ⟨w.heap.size, 0, none⟩ = some (.slice (some ⟨b, o, none⟩) (len f) c) ∧ w'.cell? ⟨w.heap.size + 1, 0, none⟩ = some (.slice (some ⟨b', o', none⟩) (len g) c') ∧ w'.cell? ⟨b, o + k, none⟩ = some (.slice a1 (len (kid f k)) c1) ∧ w'.cell? ⟨b', o' + k, none⟩ = some (.slice a2 (len (kid g k)) c2))) := fun w' h => ⟨h, Ex.at h hbx, Ex.at h hbx', Ex.at h hc1, Ex.at h hc2⟩
          have hI : Hid (∀ w', Ex wr w' → Calls Tryd.prog 28 #[.agg #[.slice a1 (len (kid f k)) c1], .agg #[.slice a2 (len (kid g k)) c2]] w' fun e w'' => e = .returned (.bool (eqT (kid f k) (kid g k))) ∧ Ex w' w'') := fun w' h =>
            I.out (kid f k) (kid g k) a1 a2 c1 c2 lo lo' w' (by have := dep_kid f k hlt; omega) (Sm_kid SS.out k hlt).1 (Sm_kid SS.out k hlt).2 (T1.out w' h) (T2.out w' h)
          have i0 : (0 : Int) ≤ (k : Int) := by omega
          have i1 : (k : Int) < (len f : Int) := by omega
          have i2 : (k : Int) < (len g : Int) := by omega
          clear hkk hkk' ht1 ht2
          go_wp2_with fail
          go_region_held3 (fun w' => Ex wr w' ∧ w'.cell? ⟨w.heap.size, 0, none⟩ = some (.slice (some ⟨b, o, none⟩) (len f) c) ∧ w'.cell? ⟨w.heap.size + 1, 0, none⟩ = some (.slice (some ⟨b', o', none⟩) (len g) c') ∧ w'.cell? ⟨b, o + k, none⟩ = some (.slice a1 (len (kid f k)) c1) ∧ w'.cell? ⟨b', o' + k, none⟩ = some (.slice a2 (len (kid g k)) c2)) ((refine KS.out _ ?_; first | exact (Ex.refl _).drew | exact Ex.trans (And.left ‹Ex _ _ ∧ _›) ‹Ex _ _›)) (first | (go_at_call 28; refine (hI.out _ (And.left ‹Ex _ _ ∧ _›)).mono ?_; rintro e w7 ⟨rfl, hb7⟩))
          have hx7 : Ex wr w7 := And.left ‹Ex wr w7 ∧ _›
          cases hfk : eqT (kid f k) (kid g k)
          · go_wp2_with fail
            go_ret
            exact ⟨ret_b (eqT_bad _ _ k hlt hfk).symm, hw.trans hx7⟩
          · go_wp2_with fail
            go_roundw
            case rel => exact ⟨k + 1, by omega, by go_num, hx.trans hx7, fun j hj => by
              by_cases hj' : j < k
              · exact FT.out j hj'
              · rw [show j = k by omega]; exact hfk⟩
            case measure => simp [intOf]; omega
        · go_wp2_with fail
          go_ret
          exact ⟨ret_b (eqT_good _ _ HL.out fun j hj => FT.out j (by omega)).symm, hw⟩
    · have e0 : ((len f : Int) != (len g : Int)) = true := by simp; omega
      go_enter Tryd.func28, Tryd.ntmps28
      go_wp2_with fail
      go_ret
      exact ⟨ret_b (eqT_len _ _ hlen).symm, (Ex.new _ _).alloc _⟩


end Go.Proofs.YtldbmlojgakieaaDoor

namespace Go.Proofs.YtldbmlojgakieaaDoor

open Go.RowKit Go.Deep Go.Maps Go.WideMaps

attribute [local go_sem ↓] Go.wp_at_zero Go.wp_at_succ

abbrev nilK : ByteArray → F := fun _ => .nil
theorem setAll_yes {ns : List ByteArray} {l : F} {s : ByteArray} {i : Nat} (h : ((ns.getD i ⟨#[]⟩).toList == s.toList) = true) : setAll nilK ns l (i + 1) s = kid l i := by rw [setAll, setK, if_pos h]
theorem setAll_no {ns : List ByteArray} {l : F} {s : ByteArray} {i : Nat} (h : ((ns.getD i ⟨#[]⟩).toList == s.toList) = false) : setAll nilK ns l (i + 1) s = setAll nilK ns l i s := by rw [setAll, setK, if_neg (by rw [h]; simp)]

/-- The type of a name that is found. -/
def GtP (S : Nat → Prop) (f : F) (has : Bool) (w : World) (e : Ending) (w' : World) : Prop := ∃ a' c' b, e = .returned (.tuple #[.agg #[.slice a' (len f) c'], .bool b]) ∧ (has = true → b = true) ∧ SA w' S f a' ∧ Ex w w'

set_option maxRecDepth 100000 in
set_option maxHeartbeats 2000000 in
theorem getT_any (B : Nat) (S : Nat → Prop) (ns : List ByteArray) (tl : F) (na ta : Option Addr) (nc tc : Nat) (s : ByteArray) (w : World) (hl : ns.length ≤ 1000000000) (hlen : len tl = ns.length) (hS : ∀ b, S b → b < w.heap.size)
    (h1 : w.cell? ⟨B, 0, none⟩ = some (.slice na ns.length nc)) (h2 : w.cell? ⟨B, 1, none⟩ = some (.slice ta (len tl) tc)) (hX : XA w 0 ns na) (hV : SA w S tl ta) :
    Calls Tryd.prog 26 #[.pointer (some ⟨B, 0, none⟩), .string s] w (GtP S (setAll nilK ns tl ns.length s) (hasB ns s) w) := by
  have X : Hid (∀ w', Ex w w' → XA w' 0 ns na) := fun _ h => XA_below hX h
  have V : Hid (∀ w', Ex w w' → SA w' S tl ta) := fun _ h => SA_ex hV h
  have HS : Hid (∀ b, S b → b < w.heap.size) := hS
  have HL : Hid (len tl = ns.length) := hlen
  have CB : Hid (∀ w', Ex w w' → w'.cell? ⟨B, 0, none⟩ = some (.slice na ns.length nc) ∧ w'.cell? ⟨B, 1, none⟩ = some (.slice ta (len tl) tc)) := fun w' h => ⟨h.at h1, h.at h2⟩
  have N : Hid (Ex w (w.alloc (.cells #[.slice none 0 0] 32))) := Ex.new _ _
  have zb : B < w.heap.size := World.block_lt_of_cell? _ _ h1
  have g1 := (Ex.new w (.cells #[.slice none 0 0] 32)).at h1
  obtain ⟨R, hR⟩ : ∃ R, R = setAll nilK ns tl ns.length s := ⟨_, rfl⟩
  have RR : Hid (R = setAll nilK ns tl ns.length s) := hR
  rw [← hR]
  obtain ⟨hb, hhb⟩ : ∃ hb, hb = hasB ns s := ⟨_, rfl⟩
  have HB : Hid (hb = hasB ns s) := hhb
  rw [← hhb]
  clear hX hV hS hlen hR h1 h2 hhb
  go_enter Tryd.func26, Tryd.ntmps26
  go_wp2_with fail
  go_loopw [6] (fun i wr => ∃ (j : Nat) (x : Int), j ≤ ns.length ∧ x = (j : Int) - 1 ∧ i = .int .i64 x ∧ R = setAll nilK ns tl j s ∧ (∀ i, j ≤ i → i < ns.length → ((ns.getD i ⟨#[]⟩).toList == s.toList) = false) ∧ Ex (w.alloc (.cells #[.slice none 0 0] 32)) wr) (fun i _ => (intOf i + 1).toNat)
  case atStart => exact ⟨ns.length, _, Nat.le_refl _, rfl, by go_num, RR.out, fun i h1 h2 => by omega, Ex.refl _⟩
  case round =>
    obtain ⟨j, x, hj, hx, rfl, hr, hno, hex⟩ := hrel
    have XJ : Hid (x = (j : Int) - 1) := hx
    have RJ : Hid (R = setAll nilK ns tl j s) := hr
    have E : Hid (Ex (w.alloc (.cells #[.slice none 0 0] 32)) wr) := hex
    have J : Hid (j ≤ ns.length) := hj
    have NO : Hid (∀ i, j ≤ i → i < ns.length → ((ns.getD i ⟨#[]⟩).toList == s.toList) = false) := hno
    have hob : wr.heap[w.heap.size]? = some (.cells #[.slice none 0 0] 32 (0, 0)) := hex.blk (heap_alloc_at _ _ (by simp))
    have r0 := cell_of_one hob
    have r2 := free_of_one hob
    have OB : Hid _ := hob
    obtain ⟨p1, p2⟩ := CB.out wr (N.out.trans E.out)
    cases j with
    | zero =>
      have hx1 : x = -1 := by omega
      clear hx hr hex hj hob XJ hno
      subst hx1
      have HR : Hid (R = .nil) := RJ.out
      have HN : Hid (hb = false) := HB.out.trans (hasB_no fun i hi => NO.out i (Nat.zero_le _) hi)
      go_wp2_with fail
      have s0 := World.cell?_setCell_same wr ⟨w.heap.size, 0, none⟩ (.slice none 0 0) r0
      refine bodyPost_ret (v := .tuple #[.agg #[.slice none 0 0], .bool false]) (by simp [results, Tryd.results26, go_sem, s0]) rfl ?_
      rw [HR.out]
      exact ⟨none, 0, false, rfl, fun h => (by rw [HN.out] at h; cases h), Or.inl rfl, (N.out.trans E.out).set (by exact Nat.le_refl _) _⟩
    | succ j =>
      have hxj : x = (j : Int) := by omega
      clear hx hr hex hob XJ hno
      subst hxj
      obtain ⟨b, o, rfl, hbs, _, hc⟩ := XA_at (X.out wr (N.out.trans E.out)) (by omega)
      have ck := hc j (by omega)
      obtain ⟨b', o', rfl, _, _, hk⟩ := SA_at (V.out wr (N.out.trans E.out)) (by have := HL.out; omega)
      obtain ⟨a', c', v1c, hV'⟩ := hk j (by have := HL.out; omega)
      have VK : Hid (SA wr S (kid tl j) a') := hV'
      have i0 : (0 : Int) ≤ (j : Int) := by omega
      have i1 : (j : Int) < (ns.length : Int) := by omega
      have i2 : (j : Int) < (len tl : Int) := by have := HL.out; omega
      have Y : Hid (((ns.getD j ⟨#[]⟩).toList == s.toList) = true → R = kid tl j) := fun h => RJ.out.trans (setAll_yes h)
      have U : Hid (((ns.getD j ⟨#[]⟩).toList == s.toList) = false → R = setAll nilK ns tl j s) := fun h => RJ.out.trans (setAll_no h)
      have NX : Hid (((ns.getD j ⟨#[]⟩).toList == s.toList) = false → ∀ i, j ≤ i → i < ns.length → ((ns.getD i ⟨#[]⟩).toList == s.toList) = false) := fun h i h1 h2 => by
        by_cases e : i = j
        · rw [e]; exact h
        · exact NO.out i (by omega) h2
      obtain ⟨t, ht⟩ : ∃ t, ns.getD j ⟨#[]⟩ = t := ⟨_, rfl⟩
      rw [ht] at ck Y U NX
      clear hc ht hk hV' RJ
      cases he : t.toList == s.toList with
      | true =>
        have HR : Hid (R = kid tl j) := Y.out he
        go_wp2_with fail
        have s0 := World.cell?_setCell_same wr ⟨w.heap.size, 0, none⟩ (.slice a' (len (kid tl j)) c') r0
        refine bodyPost_ret (v := .tuple #[.agg #[.slice a' (len (kid tl j)) c'], .bool true]) (by simp [results, Tryd.results26, go_sem, s0]) rfl ?_
        rw [HR.out]
        refine ⟨a', c', true, rfl, fun _ => rfl, SA_ks VK.out fun b hb _ => ?_, (N.out.trans E.out).set (by exact Nat.le_refl _) _⟩
        have := HS.out b hb
        rw [Below.heap_setCell _ _ _ _ (by show b ≠ w.heap.size; omega)]
      | false =>
        have HU : Hid _ := U.out he
        have HX : Hid _ := NX.out he
        go_wp2_with fail
        go_roundw
        case rel => exact ⟨j, (j : Int) - 1, by omega, rfl, by go_num, HU.out, HX.out, E.out⟩
        case measure => simp [intOf]

end Go.Proofs.YtldbmlojgakieaaDoor
