/- Walks: the type of a term, by the specification. errors.Is by its contracts, where both are the fault, and where there is none (after the guide's own). errors.Is where the two are different faults (after the guide's own); which faults say that there is nothing to be told. Walks: KindTerm by the program. Walks: KindTerm by the specification. What the specification keeps of types while it goes through a body: names and types in rows of its own. -/
import Derived.Test.YtgpdnoghlommeaaGreatDoorGKS1
import Derived.Deep.CutRange
import Derived.Test.YtgpdnoghlommeaaGreatDoorGE1
import Derived.LaidEql
import Derived.Stop.Asserts
import Derived.RowKitTokens
import Derived.Test.YtgpdnoghlommeaaGreatDoorGBD4
namespace Go.Proofs.YtgpdnoghlommeaaGreatDoor

open Go.RowKit Go.Deep Go.Maps Go.WideMaps

attribute [local go_sem ↓] Go.wp_at_zero Go.wp_at_succ

/-- A type, and whether there is one. -/
def StP (S : Nat → Prop) (R : Option F) (w : World) (e : Ending) (w' : World) : Prop :=
  ∃ (g : F) (a' : Option Addr) (c' : Nat), e = .returned (.tuple #[.agg #[.slice a' (len g) c'], .bool R.isSome]) ∧ (∀ v, R = some v → v = g) ∧ SA w' (fun b => S b ∨ w.heap.size ≤ b) g a' ∧ Ex w w'

theorem KR.empty (w : World) (S : Nat → Prop) : KR (w.alloc (.cells #[] 55)) w.heap.size S (.slice (some ⟨w.heap.size, 0, none⟩) 0 0) .nil :=
  ⟨[], ⟨rfl, Or.inr ⟨w.heap.size, 0, #[], rfl, Nat.le_refl _, heap_alloc_at _ _ rfl, by first | rfl | simp [len], by first | rfl | simp, by first | rfl | simp, by first | rfl | simp⟩⟩, fun _ hj => absurd hj (Nat.not_lt_zero _)⟩

theorem typeAt_fit {f : F} {p : List Int} (h : fits 4 f = true) : (typeAtR f p).1 = (partF f p).getD .nil ∧ (typeAtR f p).2 = (partF f p).isSome := by
  unfold typeAtR
  rw [if_pos h]
  cases partF f p <;> exact ⟨rfl, rfl⟩

theorem both_zero (a b : Nat) : (((a : Int) == 0) && ((b : Int) == 0)) = ((((a : Int) + (b : Int))) == 0) := by
  rw [Bool.eq_iff_iff]
  simp only [Bool.and_eq_true, beq_iff_eq]
  omega

/-- A type told through a box of the call's own. -/
theorem ret_st {S : Nat → Prop} {R : Option F} {g : F} {w w2 : World} {b : Nat} {u : Value} {e : Ending} {a2 : Option Addr} {c2 : Nat} (hX : Ex w w2) (hV : SA w2 (fun q => S q ∨ b < q) g a2) (hS : ∀ q, S q → q < w.heap.size) (hb : w.heap.size ≤ b) (he : e = .returned (.tuple #[.agg #[.slice a2 (len g) c2], .bool R.isSome])) (hg : ∀ v, R = some v → v = g) : StP S R w e (w2.setCell ⟨b, 0, none⟩ u) := by
  refine ⟨g, a2, c2, he, hg, SA_mono (SA_ks hV fun q hq _ => ?_) fun q _ hq => ?_, hX.set (by exact hb) _⟩
  · have hne : q ≠ b := by
      rcases hq with h | h
      · have := hS q h; omega
      · omega
    rw [Below.heap_setCell _ _ _ _ hne]
  · rcases hq with h | h
    · exact Or.inl h
    · exact Or.inr (by omega)

set_option maxRecDepth 100000 in
set_option maxHeartbeats 4000000 in
theorem sterm_by (B : Nat) (T S : Nat → Prop) (ns : List ByteArray) (tl : F) (na ta : Option Addr) (nc tc : Nat) (k n : Int) (s : ByteArray) (p : List Int) (pa : Option Addr) (pc : Nat) (f : TM) (a : Option Addr) (c : Nat) (w : World)
    (hnl : ns.length ≤ 1000000000) (hlen : len tl = ns.length) (hB1 : w.cell? ⟨B, 0, none⟩ = some (.slice na ns.length nc)) (hB2 : w.cell? ⟨B, 1, none⟩ = some (.slice ta (len tl) tc)) (hX : XA w 0 ns na) (hV : TTop w T S tl ta) (hS : ∀ b, S b → b < w.heap.size)
    (hp : p.length ≤ 1000000000) (hP : PA w 0 p pa) (hM : MA w 0 f a) (hl : tlen f ≤ 100000000) (hsh : k = 1 ∨ k = 2 ∨ k = 6 ∨ (k = 7 ∧ tlen f = 1) ∨ (k ≠ 7 ∧ tlen f = 2)) (hk0 : k = 1 ∨ k = 2 → tlen f = 0) (hh : k = 2 → hasB ns s = true)
    (hT : ∀ l, evT (setAll nilK ns tl ns.length) f = some l → ∀ i, i < len l → fits 4 (kid l i) = true)
    (hK : ∀ j, j < tlen f → ∀ (pa' : Option Addr) (pc' : Nat) (a' : Option Addr) (c' : Nat) (w' : World), Ex w w' → PA w' 0 (tpath f j) pa' → MA w' 0 (tkid f j) a' → Calls Tryz.prog 79 #[.pointer (some ⟨B, 0, none⟩), .agg #[.int .i64 (tkind f j), .int .i64 (tnum f j), .string (tname f j), .slice pa' (tpath f j).length pc', .slice a' (tlen (tkid f j)) c']] w' (StP S (evTAt (setAll nilK ns tl ns.length) f j) w')) :
    Calls Tryz.prog 79 #[.pointer (some ⟨B, 0, none⟩), .agg #[.int .i64 k, .int .i64 n, .string s, .slice pa p.length pc, .slice a (tlen f) c]] w (StP S (oneT (setAll nilK ns tl ns.length) k s p (evT (setAll nilK ns tl ns.length) f)) w) := by
  have HS : Hid (∀ b, S b → b < w.heap.size) := hS
  have PL : Hid (p.length ≤ 1000000000) := hp
  have P : Hid (∀ w', Ex w w' → PA w' 0 p pa) := fun _ h => PA_below hP h
  have M : Hid (∀ w', Ex w w' → MA w' 0 f a) := fun _ h => MA_below hM h
  have SH : Hid (k = 1 ∨ k = 2 ∨ k = 6 ∨ (k = 7 ∧ tlen f = 1) ∨ (k ≠ 7 ∧ tlen f = 2)) := hsh
  have K0 : Hid (k = 1 ∨ k = 2 → tlen f = 0) := hk0
  have HH : Hid (k = 2 → hasB ns s = true) := hh
  have GT : Hid (∀ w', Ex w w' → Calls Tryz.prog 106 #[.pointer (some ⟨B, 0, none⟩), .string s] w' (GtP S (setAll nilK ns tl ns.length s) (hasB ns s) w')) := fun w' h => getT_any B T S ns tl na ta nc tc s w' hnl hlen (fun b hb => Nat.lt_of_lt_of_le (hS b hb) h.size) (h.at hB1) (h.at hB2) (XA_below hX h) (hV.ex h)
  obtain ⟨L, hL⟩ : ∃ L, L = setAll nilK ns tl ns.length := ⟨_, rfl⟩
  rw [← hL] at hT hK GT ⊢
  have TT : Hid (∀ l, evT L f = some l → ∀ i, i < len l → fits 4 (kid l i) = true) := hT
  have I : Hid _ := hK
  have N : Hid (Ex w (((w.alloc (.cells #[.int .i64 k, .int .i64 n, .string s, .slice pa p.length pc, .slice a (tlen f) c] 90)).alloc (.cells #[.slice none 0 0] 55)).alloc (.cells #[.slice none 0 0] 55))) := ((Ex.new _ _).alloc _).alloc _
  have C : Hid (∀ w', Ex (((w.alloc (.cells #[.int .i64 k, .int .i64 n, .string s, .slice pa p.length pc, .slice a (tlen f) c] 90)).alloc (.cells #[.slice none 0 0] 55)).alloc (.cells #[.slice none 0 0] 55)) w' → w'.cell? ⟨w.heap.size, 0, none⟩ = some (.int .i64 k) ∧ w'.cell? ⟨w.heap.size, 1, none⟩ = some (.int .i64 n) ∧ w'.cell? ⟨w.heap.size, 2, none⟩ = some (.string s) ∧ w'.cell? ⟨w.heap.size, 3, none⟩ = some (.slice pa p.length pc) ∧ w'.cell? ⟨w.heap.size, 4, none⟩ = some (.slice a (tlen f) c) ∧ w'.heap[w.heap.size + 1]? = some (.cells #[.slice none 0 0] 55 (0, 0)) ∧ w'.cell? ⟨w.heap.size + 2, 0, none⟩ = some (.slice none 0 0)) := fun w' h => ⟨h.at (((Ex.new _ _).alloc _).at (by simp)), h.at (((Ex.new _ _).alloc _).at (by simp)), h.at (((Ex.new _ _).alloc _).at (by simp)), h.at (((Ex.new _ _).alloc _).at (by simp)), h.at (((Ex.new _ _).alloc _).at (by simp)), h.blk ((Ex.new _ _).blk (heap_alloc_at _ _ (by simp only [World.size_alloc]))), h.at (cell_of_one (heap_alloc_at _ _ (by simp only [World.size_alloc])))⟩
  clear hS hp hP hM hsh hk0 hh hT hK hB1 hB2 hX hV hL hlen
  obtain ⟨R, hR⟩ : ∃ R, R = oneT L k s p (evT L f) := ⟨_, rfl⟩
  have RR : Hid (R = oneT L k s p (evT L f)) := hR
  rw [← hR]
  clear hR
  by_cases k1 : k = 1
  · have RV : Hid (R = some .nil) := by
      show _ = _
      have h0 := K0.out (Or.inl k1)
      rw [RR.out, k1]
      have : f = .nil := by cases f with | nil => rfl | node => simp [tlen] at h0
      rw [this]; rfl
    subst k1
    go_enter Tryz.func79, Tryz.ntmps79
    go_wp2_with fail
    refine bodyPost_ret (v := .tuple #[.agg #[.slice none 0 0], .bool true]) (by simp [results, Tryz.results79, go_sem]) rfl ?_
    rw [RV.out]
    refine ⟨.nil, none, 0, rfl, fun v hv => (by cases hv; rfl), Or.inl rfl, ?_⟩
    first | exact N.out | exact N.out.set (by show w.heap.size ≤ w.heap.size + 1; omega) _
  by_cases k2 : k = 2
  · have RV : Hid (R = some (L s)) := by
      show _ = _
      have h0 := K0.out (Or.inr k2)
      rw [RR.out, k2]
      have : f = .nil := by cases f with | nil => rfl | node => simp [tlen] at h0
      rw [this]; rfl
    have HB : Hid (hasB ns s = true) := HH.out k2
    subst k2
    obtain ⟨v, hv⟩ : ∃ v, v = L s := ⟨_, rfl⟩
    rw [← hv] at GT RV
    clear hv
    go_enter Tryz.func79, Tryz.ntmps79
    go_wp2_with fail
    refine (GT.out _ N.out).mono ?_
    rintro e w1 ⟨a1, c1, b, rfl, hb, hVg, hx1⟩
    have bt := hb HB.out
    subst bt
    obtain ⟨_, _, _, _, _, hr, _⟩ := C.out w1 hx1
    have VG : Hid (SA w1 S v a1) := hVg
    have X1 : Hid (Ex w w1) := N.out.trans hx1
    have r0 := cell_of_one hr
    have r2 := free_of_one hr
    clear hb hVg
    go_wp2_with fail
    have s0 := World.cell?_setCell_same w1 ⟨w.heap.size + 1, 0, none⟩ (.slice a1 (len v) c1) r0
    refine bodyPost_ret (v := .tuple #[.agg #[.slice a1 (len v) c1], .bool true]) (by simp [results, Tryz.results79, go_sem, s0]) rfl ?_
    rw [RV.out]
    exact ret_st (R := some v) X1.out (SA_mono VG.out fun b _ hb => Or.inl hb) HS.out (by omega) rfl (fun v' hv => by cases hv; rfl)
  have q1 : (k == 1) = false := by rw [beq_eq_false_iff_ne]; exact k1
  have q2 : (k == 2) = false := by rw [beq_eq_false_iff_ne]; exact k2
  have NK : Hid (¬ k = 1 ∧ ¬ k = 2) := ⟨k1, k2⟩
  have HLN : Hid (tlen f ≤ 100000000) := hl
  clear GT HH K0 k1 k2
  go_enter Tryz.func79, Tryz.ntmps79
  go_wp2_with fail
  go_loopw [7, 8, 9, 10] (fun ov i _ _ wr => ∃ (j : Nat) (l : F), j ≤ tlen f ∧ i = .int .i64 j ∧ evTP L f j = some l ∧ len l = j ∧ KR wr (w.heap.size + 3) S ov l ∧ Ex (((w.alloc (.cells #[.int .i64 k, .int .i64 n, .string s, .slice pa p.length pc, .slice a (tlen f) c] 90)).alloc (.cells #[.slice none 0 0] 55)).alloc (.cells #[.slice none 0 0] 55)) wr) (fun _ i _ _ _ => tlen f - (intOf i).toNat)
  case atStart =>
    refine ⟨0, .nil, by omega, rfl, rfl, rfl, ?_, Ex.new _ _⟩
    have h := KR.empty (((w.alloc (.cells #[.int .i64 k, .int .i64 n, .string s, .slice pa p.length pc, .slice a (tlen f) c] 90)).alloc (.cells #[.slice none 0 0] 55)).alloc (.cells #[.slice none 0 0] 55)) S
    have e : (((w.alloc (.cells #[.int .i64 k, .int .i64 n, .string s, .slice pa p.length pc, .slice a (tlen f) c] 90)).alloc (.cells #[.slice none 0 0] 55)).alloc (.cells #[.slice none 0 0] 55)).heap.size = w.heap.size + 3 := by simp only [World.size_alloc]
    rw [e] at h
    exact h
  case round =>
    obtain ⟨j, l, hj, rfl, hev, hlen, hvr, hx⟩ := hrel
    have EVP : Hid (evTP L f j = some l) := hev
    have LJ : Hid (len l = j) := hlen
    have E : Hid (Ex (((w.alloc (.cells #[.int .i64 k, .int .i64 n, .string s, .slice pa p.length pc, .slice a (tlen f) c] 90)).alloc (.cells #[.slice none 0 0] 55)).alloc (.cells #[.slice none 0 0] 55)) wr) := hx
    obtain ⟨c0, c1, c2, c3, c4, hr, hn0⟩ := C.out wr hx
    have HR : Hid (wr.heap[w.heap.size + 1]? = some (.cells #[.slice none 0 0] 55 (0, 0))) := hr
    obtain ⟨av, ac, rfl, hvs⟩ := hvr.vs
    have VV : Hid (SA wr (fun b => S b ∨ w.heap.size + 3 ≤ b) l av) := hvs
    have O : Hid (KR wr (w.heap.size + 3) S (.slice av (len l) ac) l) := hvr
    clear hx hev hvr hlen hvs hr
    by_cases hlt : j < tlen f
    · obtain ⟨b, o, ha, _, hbs, hk⟩ := MA_at (M.out wr (N.out.trans E.out)) (by omega)
      have c4' : wr.cell? ⟨w.heap.size, 4, none⟩ = some (.slice (some ⟨b, o, none⟩) (tlen f) c) := by rw [← ha]; exact c4
      obtain ⟨e0, e1, e2, ⟨pa', pc', e3, hp'⟩, a', c', e4, hm'⟩ := hk j hlt
      have HI : Hid (∀ w', Ex wr w' → Calls Tryz.prog 79 #[.pointer (some ⟨B, 0, none⟩), .agg #[.int .i64 (tkind f j), .int .i64 (tnum f j), .string (tname f j), .slice pa' (tpath f j).length pc', .slice a' (tlen (tkid f j)) c']] w' (StP S (evTAt L f j) w')) := fun w' h => I.out j hlt pa' pc' a' c' w' (N.out.trans (E.out.trans h)) (PA_below (PS_pa.1 hp'.1) h) (MA_below hm' h)
      have V : Hid (evTAt L f j = none → R = none) := fun h => by show _ = _; rw [RR.out, evT_none hlt h]; rfl
      clear hk hp' hm' c4 ha
      go_wp2_with fail
      refine Calls.mono (HI.out _ (Ex.refl _)) ?_
      rintro e w1 ⟨g, a1, c1', rfl, hg, hV1, hb1⟩
      have E1 : Hid (Ex wr w1) := hb1
      have X1 : Hid (Ex (((w.alloc (.cells #[.int .i64 k, .int .i64 n, .string s, .slice pa p.length pc, .slice a (tlen f) c] 90)).alloc (.cells #[.slice none 0 0] 55)).alloc (.cells #[.slice none 0 0] 55)) w1) := E.out.trans E1.out
      have hr1 := hb1.blk HR.out
      have n1 := hb1.at hn0
      clear c0 c1 c2 c3 c4' hn0
      have r0 := cell_of_one hr1
      have r2 := free_of_one hr1
      have zr : w.heap.size + 2 < w1.heap.size := World.block_lt_of_cell? _ _ n1
      have zr1 : w.heap.size + 1 < w1.heap.size := by omega
      clear hb1 HI
      cases hkb : evTAt L f j with
      | none =>
        have HRN : Hid (R = none) := V.out hkb
        clear hkb hV1 hg
        simp only [Option.isSome_none]
        go_wp2_with fail
        have s0 := res_at r0 (.slice none 0 0) (.cells #[.slice a1 (len g) c1'] 55)
        refine bodyPost_ret (v := .tuple #[.agg #[.slice none 0 0], .bool false]) (by simp [results, Tryz.results79, go_sem, s0]) rfl ⟨.nil, none, 0, by rw [HRN.out]; rfl, fun v hv => (by rw [HRN.out] at hv; cases hv), Or.inl rfl, ((N.out.trans X1.out).set (by show w.heap.size ≤ w.heap.size + 1; omega) _).alloc _⟩
      | some v =>
        have hgv := hg v hkb
        subst hgv
        have V1 : Hid (SA w1 (fun b => S b ∨ wr.heap.size ≤ b) v a1) := hV1
        have EV1 : Hid (evTAt L f j = some v) := hkb
        obtain ⟨c0, c1, c2, c3, c4, _⟩ := C.out w1 X1.out
        clear hkb hV1 hg
        simp only [Option.isSome_some]
        have E2 : Hid (Ex (((w.alloc (.cells #[.int .i64 k, .int .i64 n, .string s, .slice pa p.length pc, .slice a (tlen f) c] 90)).alloc (.cells #[.slice none 0 0] 55)).alloc (.cells #[.slice none 0 0] 55)) ((w1.alloc (.cells #[.slice a1 (len v) c1'] 55)).alloc (.cells #[.slice a1 (len v) c1'] 55))) := (X1.out.alloc _).alloc _
        have O3 : Hid (KR ((w1.alloc (.cells #[.slice a1 (len v) c1'] 55)).alloc (.cells #[.slice a1 (len v) c1'] 55)) (w.heap.size + 3) S (.slice av (len l) ac) l) := KR.ex O.out ((E1.out.alloc _).alloc _)
        have C20 : Hid (((w1.alloc (.cells #[.slice a1 (len v) c1'] 55)).alloc (.cells #[.slice a1 (len v) c1'] 55)).cell? ⟨w1.heap.size + 1, 0, none⟩ = some (.slice a1 (len v) c1')) := by show _ = _; simp
        have zW : (((w.alloc (.cells #[.int .i64 k, .int .i64 n, .string s, .slice pa p.length pc, .slice a (tlen f) c] 90)).alloc (.cells #[.slice none 0 0] 55)).alloc (.cells #[.slice none 0 0] 55)).heap.size = w.heap.size + 3 := by simp only [World.size_alloc]
        have BS : Hid ((((w.alloc (.cells #[.int .i64 k, .int .i64 n, .string s, .slice pa p.length pc, .slice a (tlen f) c] 90)).alloc (.cells #[.slice none 0 0] 55)).alloc (.cells #[.slice none 0 0] 55)).heap.size ≤ w.heap.size + 3 ∧ w.heap.size + 3 ≤ ((w1.alloc (.cells #[.slice a1 (len v) c1'] 55)).alloc (.cells #[.slice a1 (len v) c1'] 55)).heap.size) := by
          have := E2.out.size
          exact ⟨by omega, by omega⟩
        have zwr : w.heap.size + 3 ≤ wr.heap.size := by have := E.out.size; omega
        have V3 : Hid (SA ((w1.alloc (.cells #[.slice a1 (len v) c1'] 55)).alloc (.cells #[.slice a1 (len v) c1'] 55)) (fun b => (S b ∨ w.heap.size + 3 ≤ b) ∧ (Value.slice av (len l) ac).ownBlock ≠ some b) v a1) := SA_mono (SA_ex V1.out ((Ex.new _ _).alloc _)) fun b _ hb => by
          have ho := KR.own O.out
          rcases hb with hb | hb
          · exact ⟨Or.inl hb, fun e => by have := (ho b e).1; have := HS.out b hb; omega⟩
          · exact ⟨Or.inr (by omega), fun e => by have := (ho b e).2; omega⟩
        have j6 : len l ≤ 100000000 := by have := LJ.out; have := HLN.out; omega
        have EV2 : Hid (evTP L f (j + 1) = some (snoc l 0 v)) := evTP_snoc EVP.out EV1.out
        clear O E V1 EV1 EVP VV zW zwr hr1 HR
        go_wp2_with (at_builtin; refine wpList_append_type rfl _ _ rfl (((w.alloc (.cells #[.int .i64 k, .int .i64 n, .string s, .slice pa p.length pc, .slice a (tlen f) c] 90)).alloc (.cells #[.slice none 0 0] 55)).alloc (.cells #[.slice none 0 0] 55)) E2.out S (w.heap.size + 3) BS.out.1 BS.out.2 (.slice av (len l) ac) l rfl O3.out (w1.heap.size + 1) 1 v a1 c1' rfl C20.out V3.out j6 ?_)
        intro av3 ac3 w3 hown3 hx3 _
        have O4 : Hid (KR w3 (w.heap.size + 3) S (.slice av3 (len l + 1) ac3) (snoc l 0 v)) := hown3
        have E3 : Hid (Ex (((w.alloc (.cells #[.int .i64 k, .int .i64 n, .string s, .slice pa p.length pc, .slice a (tlen f) c] 90)).alloc (.cells #[.slice none 0 0] 55)).alloc (.cells #[.slice none 0 0] 55)) w3) := hx3
        clear hown3 hx3 O3 E2 C20 V3 BS
        go_wp2_with fail
        go_roundw
        case rel => exact ⟨j + 1, _, by omega, by go_num, EV2.out, by rw [len_snoc, LJ.out], O4.out, E3.out⟩
        case measure => simp [intOf]; omega
    · have hje : j = tlen f := by omega
      have EV : Hid (evT L f = some l) := by
        show _ = _
        rw [← evTP_all, ← hje]; exact EVP.out
      have LL : Hid (len l = tlen f) := by show _ = _; rw [LJ.out]; exact hje
      have RV : Hid (R = oneT L k s p (some l)) := by show _ = _; rw [RR.out, EV.out]
      have TY : Hid (∀ i, i < len l → fits 4 (kid l i) = true) := TT.out l EV.out
      have r0 := cell_of_one HR.out
      have r2 := free_of_one HR.out
      clear EVP LJ hje EV RR TT O I
      have XR : Hid (Ex w wr) := N.out.trans E.out
      have zr2 : w.heap.size + 2 < wr.heap.size := World.block_lt_of_cell? _ _ hn0
      have zr1 : w.heap.size + 1 < wr.heap.size := by omega
      have zr0 : w.heap.size < wr.heap.size := by omega
      by_cases k6 : k = 6
      · subst k6
        have RW : R = ifT (fits 4 l) l := RV.out
        obtain ⟨z, hz⟩ : ∃ z, fits 4 l = z := ⟨_, rfl⟩
        rw [hz] at RW
        have RZ : Hid (R = ifT z l) := RW
        have IA : Hid (∀ w', Ex wr w' → Calls Tryz.prog 23 #[.agg #[.slice av (len l) ac]] w' fun e w'' => e = .returned (.bool z) ∧ Ex w' w'') := fun w' h => by have := sTypeOk_any l av ac 0 w' (SA_mono (SA_ex VV.out h) fun _ _ _ => Nat.zero_le _); rw [hz] at this; exact this
        have QA : Hid ((wr.alloc (.cells #[.slice av (len l) ac] 55)).cell? ⟨wr.heap.size, 0, none⟩ = some (.slice av (len l) ac)) := by show _ = _; simp
        clear RW hz
        go_wp2_with fail
        go_region_with (go_at_call 23; refine (IA.out _ (Ex.new _ _).drew).mono ?_; rintro e w5 ⟨rfl, hb5⟩; have xb : Ex wr w5 := Ex.trans (Ex.new _ _).drew hb5; have q8 := (Ex.trans (Ex.refl (wr.alloc (.cells #[.slice av (len l) ac] 55))).drew hb5).at QA.out; clear r0 r2; have hr5 := xb.blk HR.out; have r0 := cell_of_one hr5; have r2 := free_of_one hr5)
        all_goals
          go_wp2_with fail
          have s0 := World.cell?_setCell_same w5 ⟨w.heap.size + 1, 0, none⟩ (.slice av (len l) ac) (cell_of_one hr5)
          refine bodyPost_ret (v := .tuple #[.agg #[.slice av (len l) ac], .bool z]) (by simp [results, Tryz.results79, go_sem, s0]) rfl ?_
          refine ret_st (XR.out.trans xb) (SA_mono (SA_ex VV.out xb) fun b _ hb => ?_) HS.out (by omega) (by rw [RZ.out]; cases z <;> rfl) (fun v hv => by rw [RZ.out] at hv; cases z <;> cases hv; rfl)
          rcases hb with hb | hb
          · exact Or.inl hb
          · exact Or.inr (by omega)
      by_cases k7 : k = 7
      · subst k7
        have L1 : Hid (len l = 1) := by
          have := LL.out
          have := SH.out
          have := NK.out
          show _ = _
          omega
        obtain ⟨b, o, a0, k0, ha, m0, hV0⟩ := SA_one VV.out (by have := L1.out; omega)
        have F0 : fits 4 (kid l 0) = true := TY.out 0 (by have := L1.out; omega)
        obtain ⟨Q, hQ⟩ : ∃ Q, partF (kid l 0) p = Q := ⟨_, rfl⟩
        have RQ : Hid (R = Q) := RV.out.trans hQ
        have IA : Hid (∀ w', Ex wr w' → Calls Tryz.prog 107 #[.agg #[.slice a0 (len (kid l 0)) k0], .slice pa p.length pc] w' fun e w'' => ∃ a' cap', e = .returned (.tuple #[.agg #[.slice a' (len (Q.getD .nil)) cap'], .bool Q.isSome]) ∧ TA w'' w'.heap.size (Q.getD .nil) a' ∧ Ex w' w'') := fun w' h => by
          have := sTypeAt_any (kid l 0) p a0 k0 pa pc 0 w' PL.out (SA_mono (SA_ex hV0 h) fun _ _ _ => Nat.zero_le _) (P.out w' (XR.out.trans h))
          rw [(typeAt_fit F0).1, (typeAt_fit F0).2, hQ] at this
          exact this
        have hl0 : (0 : Int) < (len l : Int) := by have := L1.out; omega
        have zb : b < wr.heap.size := World.block_lt_of_cell? _ _ m0
        subst ha
        clear hQ hV0 F0 RV
        go_wp2_with fail
        go_region_with (go_at_call 107; refine (IA.out _ (Ex.refl _).drew).mono ?_; rintro e w5 ⟨a5, k5, rfl, hT5, hb5⟩; have xb : Ex wr w5 := Ex.trans (Ex.refl _).drew hb5; clear r0 r2; have hr5 := xb.blk HR.out; have r0 := cell_of_one hr5; have r2 := free_of_one hr5)
        all_goals
          go_wp2_with fail
          have s0 := World.cell?_setCell_same w5 ⟨w.heap.size + 1, 0, none⟩ (.slice a5 (len (Q.getD .nil)) k5) (cell_of_one hr5)
          refine bodyPost_ret (v := .tuple #[.agg #[.slice a5 (len (Q.getD .nil)) k5], .bool Q.isSome]) (by simp [results, Tryz.results79, go_sem, s0]) rfl ?_
          refine ret_st (XR.out.trans xb) (SA_mono hT5 fun b _ hb => ?_) HS.out (by omega) (by rw [RQ.out]) (fun v hv => by rw [RQ.out] at hv; rw [hv]; rfl)
          have hz : wr.drew.heap.size = wr.heap.size := rfl
          rw [hz] at hb
          exact Or.inr (by omega)
      have L2 : Hid (len l = 2) := by
        have := LL.out
        have := SH.out
        have := NK.out
        show _ = _
        omega
      obtain ⟨b, o, a0, k0, a1', k1', ha, m0, m1, hV0, hV1⟩ := SA_pair VV.out L2.out
      have hl0 : (0 : Int) < (len l : Int) := by have := L2.out; omega
      have hl1 : (1 : Int) < (len l : Int) := by have := L2.out; omega
      have zb : b < wr.heap.size := World.block_lt_of_cell? _ _ m0
      have F0 : Hid (fits 4 (kid l 0) = true) := TY.out 0 (by have := L2.out; omega)
      have F1 : Hid (fits 4 (kid l 1) = true) := TY.out 1 (by have := L2.out; omega)
      have NB : Hid (b ≠ w.heap.size + 1) := by
        obtain ⟨b', o', e', hs, _, _⟩ := SA_at VV.out (by have := L2.out; omega)
        rw [ha] at e'
        cases e'
        show _ ≠ _
        rcases hs with h | h
        · have := HS.out b h; omega
        · omega
      subst ha
      by_cases k8 : k = 8
      · subst k8
        obtain ⟨Q, hQ⟩ : ∃ Q, partF (kid l 0) p = Q := ⟨_, rfl⟩
        have QQ : Hid (partF (kid l 0) p = Q) := hQ
        have IA : Hid (∀ w', Ex wr w' → Calls Tryz.prog 107 #[.agg #[.slice a0 (len (kid l 0)) k0], .slice pa p.length pc] w' fun e w'' => ∃ a' cap', e = .returned (.tuple #[.agg #[.slice a' (len (Q.getD .nil)) cap'], .bool Q.isSome]) ∧ TA w'' w'.heap.size (Q.getD .nil) a' ∧ Ex w' w'') := fun w' h => by
          have := sTypeAt_any (kid l 0) p a0 k0 pa pc 0 w' PL.out (SA_mono (SA_ex hV0 h) fun _ _ _ => Nat.zero_le _) (P.out w' (XR.out.trans h))
          rw [(typeAt_fit F0.out).1, (typeAt_fit F0.out).2, hQ] at this
          exact this
        have V0 : Hid (SA wr (fun b => S b ∨ w.heap.size + 3 ≤ b) (kid l 0) a0) := hV0
        have VK : Hid (SA wr (fun b => S b ∨ w.heap.size + 3 ≤ b) (kid l 1) a1') := hV1
        have KC : Hid (∀ w', Ex wr w' → w'.cell? ⟨b, o, none⟩ = some (.slice a0 (len (kid l 0)) k0) ∧ w'.cell? ⟨b, o + 1, none⟩ = some (.slice a1' (len (kid l 1)) k1')) := fun w' h => ⟨h.at m0, h.at m1⟩
        have hN0 : Hid (0 < len l ∧ 1 < len l) := by have := L2.out; exact ⟨by omega, by omega⟩
        clear hQ hV0 hV1
        go_upto_region 18 with fail
        go_cut [11, 12] from 68 to 75 (fun p11 p12 wx => p12 = .bool Q.isSome ∧ ∃ q a' c', p11 = .pointer (some ⟨q, 0, none⟩) ∧ wx.cell? ⟨q, 0, none⟩ = some (.slice a' (len (Q.getD .nil)) c') ∧ Ex wr wx ∧ TA wx 0 (Q.getD .nil) a')
        case first =>
          go_region_with (first | (go_at_call 107; refine (IA.out _ (by first | exact (Ex.refl _).drew | exact (Ex.refl _).drew.trans (Ex.new _ _))).mono ?_; rintro e w5 ⟨a5, c5, rfl, ht5, hb5⟩; have xb : Ex wr w5 := (by refine Ex.trans ?_ hb5; first | exact (Ex.refl _).drew | exact (Ex.new _ _).drew | exact (Ex.refl _).drew.alloc _); first | (have ob : w5.heap[wr.heap.size]? = some (.cells #[.slice none 0 0] 55) := (by first | exact hb5.blk (heap_alloc_new wr.drew _) | exact hb5.blk (heap_alloc_new wr _)); have oc := cell_of_one ob; have oz := free_of_one ob) | skip))
          all_goals
            go_wp2_with fail
            go_meet
            first
              | exact ⟨rfl, wr.heap.size, a5, c5, rfl, cell_of_one (one_setCell ob), Ex.set xb (Nat.le_refl _) _, TA_lo (TA_kp (lo := wr.heap.size + 1) (TA_lo ht5 (by first | exact Nat.le_of_eq (World.size_alloc wr _).symm | exact Nat.le_of_eq (World.size_alloc wr.drew _).symm | (show wr.heap.size + 1 ≤ (World.alloc wr _).heap.size; rw [World.size_alloc]; exact Nat.le_refl _) | simp [World.size_alloc])) ((Kp.refl _ _).set (Or.inl (by show wr.heap.size < wr.heap.size + 1; omega)) _)) (Nat.zero_le _)⟩
              | exact ⟨rfl, w5.heap.size, a5, c5, rfl, World.cell?_alloc_new _ _ _ _, xb.alloc _, TA_lo (TA_below ht5 (Ex.new _ _)) (Nat.zero_le _)⟩
        case rest =>
          rename World => w6
          obtain ⟨rfl, q, a5, c5, rfl, hq5, hx5, ht5⟩ := hcut
          have X6 : Hid (Ex wr w6) := hx5
          have T5 : Hid (∀ w', Ex w6 w' → TA w' 0 (Q.getD .nil) a5) := fun _ h => TA_below ht5 h
          obtain ⟨u0, u1⟩ := KC.out w6 hx5
          have hr6 : w6.heap[w.heap.size + 1]? = some (.cells #[.slice none 0 0] 55 (0, 0)) := hx5.blk HR.out
          have HR6 : Hid _ := hr6
          have zq : q < w6.heap.size := World.block_lt_of_cell? _ _ hq5
          have zs := hx5.size
          clear hx5 ht5 r0 r2 m0 m1
          have r0 := cell_of_one hr6
          have r2 := free_of_one hr6
          have hz2 : w.heap.size + 1 < w6.heap.size := by omega
          have hzb : b < w6.heap.size := by omega
          clear zs hr6 IA
          cases Q with
          | none =>
            have RN : Hid (R = none) := RV.out.trans (oneT_8n QQ.out)
            have HU : Hid (w6.cell? ⟨b, o, none⟩ = some (.slice a0 (len (kid l 0)) k0)) := u0
            obtain ⟨hn0', hn1'⟩ := hN0.out
            simp only [Option.getD_none, Option.isSome_none] at hq5 ⊢
            go_wp2_with fail
            refine wp_region_held_drew (S := fun w' => Ex w w' ∧ w'.cell? ⟨b, o, none⟩ = some (.slice a0 (len (kid l 0)) k0)) (by kernel_rfl) ⟨(XR.out.trans X6.out).drew, HU.out⟩ (fun hHeld => ?_)
            refine wpAnyH_take (i := 0) (v := ?_) rfl (by kernel_rfl) (by kernel_rfl) (by kernel_rfl) (fun _ _ _ h => h) (Or.inl ⟨by rfl, ?_⟩) (by assumption) ?_
            rotate_left
            · (intro w' hSw; (try dsimp only at hSw); go_simp) <;> with_reducible rfl
            change wpAnyH Tryz.prog _ _ _ _ _ _ (Act.put _ (some 76) _) _
            (try simp only [Act.put, List.setIfInBounds_toArray, List.set_cons_zero, List.set_cons_succ])
            refine wpAnyH_take (i := 1) (v := ?_) rfl (by kernel_rfl) (by kernel_rfl) (by kernel_rfl) (fun _ _ _ h => h) (Or.inl ⟨by rfl, ?_⟩) (by assumption) ?_
            rotate_left
            · (intro w' hSw; (try dsimp only at hSw); go_simp) <;> with_reducible rfl
            change wpAnyH Tryz.prog _ _ _ _ _ _ (Act.put _ (some 77) _) _
            (try simp only [Act.put, List.setIfInBounds_toArray, List.set_cons_zero, List.set_cons_succ])
            refine wpAnyH_take (i := 2) (v := ?_) rfl (by kernel_rfl) (by kernel_rfl) (by kernel_rfl) (fun _ _ _ h => h) (Or.inl ⟨by rfl, ?_⟩) (by assumption) ?_
            rotate_left
            · (intro w' hSw; (try dsimp only at hSw); go_simp) <;> with_reducible rfl
            change wpAnyH Tryz.prog _ _ _ _ _ _ (Act.put _ (some 78) _) _
            (try simp only [Act.put, List.setIfInBounds_toArray, List.set_cons_zero, List.set_cons_succ])
            refine wpAnyH_take (i := 3) (v := ?_) rfl (by kernel_rfl) (by kernel_rfl) (by kernel_rfl) (fun _ _ _ h => h) (Or.inl ⟨by rfl, ?_⟩) (by assumption) ?_
            rotate_left
            · (intro w' hSw; (try dsimp only at hSw); go_simp) <;> with_reducible rfl
            change wpAnyH Tryz.prog _ _ _ _ _ _ (Act.put _ (some 79) _) _
            (try simp only [Act.put, List.setIfInBounds_toArray, List.set_cons_zero, List.set_cons_succ])
            refine wpAnyH_take (i := 4) (v := ?_) rfl (by kernel_rfl) (by kernel_rfl) (by kernel_rfl) (fun _ _ _ h => h) (Or.inl ⟨by rfl, ?_⟩) (by assumption) ?_
            rotate_left
            · (intro w' hSw; (try dsimp only at hSw); go_simp) <;> with_reducible rfl
            change wpAnyH Tryz.prog _ _ _ _ _ _ (Act.put _ (some 80) _) _
            (try simp only [Act.put, List.setIfInBounds_toArray, List.set_cons_zero, List.set_cons_succ])
            refine wpAnyH_take (i := 5) (v := undef) rfl (by kernel_rfl) (by kernel_rfl) (by kernel_rfl) (fun _ _ _ h => h) (Or.inr ⟨by kernel_rfl, rfl⟩) (by assumption) ?_
            change wpAnyH Tryz.prog _ _ _ _ _ _ (Act.put _ (some 81) _) _
            (try simp only [Act.put, List.setIfInBounds_toArray, List.set_cons_zero, List.set_cons_succ])
            refine wpAnyH_take (i := 6) (v := undef) rfl (by kernel_rfl) (by kernel_rfl) (by kernel_rfl) (fun _ _ _ h => h) (Or.inr ⟨by kernel_rfl, rfl⟩) (by assumption) ?_
            change wpAnyH Tryz.prog _ _ _ _ _ _ (Act.put _ (some 82) _) _
            (try simp only [Act.put, List.setIfInBounds_toArray, List.set_cons_zero, List.set_cons_succ])
            refine wpAnyH_take (i := 7) (v := undef) rfl (by kernel_rfl) (by kernel_rfl) (by kernel_rfl) (fun _ _ _ h => h) (Or.inr ⟨by kernel_rfl, rfl⟩) (by assumption) ?_
            change wpAnyH Tryz.prog _ _ _ _ _ _ (Act.put _ (some 83) _) _
            (try simp only [Act.put, List.setIfInBounds_toArray, List.set_cons_zero, List.set_cons_succ])
            refine wpAnyH_take (i := 8) (v := undef) rfl (by kernel_rfl) (by kernel_rfl) (by kernel_rfl) (fun _ _ _ h => h) (Or.inr ⟨by kernel_rfl, rfl⟩) (by assumption) ?_
            change wpAnyH Tryz.prog _ _ _ _ _ _ (Act.put _ (some 84) _) _
            (try simp only [Act.put, List.setIfInBounds_toArray, List.set_cons_zero, List.set_cons_succ])
            refine wpAnyH_take (i := 9) (v := undef) rfl (by kernel_rfl) (by kernel_rfl) (by kernel_rfl) (fun _ _ _ h => h) (Or.inr ⟨by kernel_rfl, rfl⟩) (by assumption) ?_
            change wpAnyH Tryz.prog _ _ _ _ _ _ (Act.put _ (some 85) _) _
            (try simp only [Act.put, List.setIfInBounds_toArray, List.set_cons_zero, List.set_cons_succ])
            refine wpAnyH_take (i := 10) (v := ?_) rfl (by kernel_rfl) (by kernel_rfl) (by kernel_rfl) (fun _ _ _ h => h) (Or.inl ⟨by rfl, ?_⟩) (by assumption) ?_
            rotate_left
            · (intro w' hSw; (try dsimp only at hSw); go_simp) <;> with_reducible rfl
            change wpAnyH Tryz.prog _ _ _ _ _ _ (Act.put _ (some 86) _) _
            (try simp only [Act.put, List.setIfInBounds_toArray, List.set_cons_zero, List.set_cons_succ])
            refine wpAnyH_ready (rs := [11]) (by kernel_rfl) (by simp) ?_
            refine AllReadyH.cons (i := 11) rfl (fun K hK => ?_) AllReadyH.nil
            go_simp
            go_wp2_with fail
            refine hK.out _ _ ?_ (fun hHeld => ?_)
            · exact ⟨((XR.out.trans X6.out).drew).set (by show w.heap.size ≤ w.heap.size + 1; omega) _, (World.cell?_setCell_other _ _ _ _ (fun e => NB.out (congrArg Addr.block e).symm)).trans HU.out⟩
            clear hK
            (try simp only [Act.put, List.setIfInBounds_toArray, List.set_cons_zero, List.set_cons_succ])
            refine wpAnyH_take (i := 12) (v := ?_) rfl (by kernel_rfl) (by kernel_rfl) (by kernel_rfl) (fun _ _ _ h => h) (Or.inl ⟨by rfl, ?_⟩) (by assumption) ?_
            rotate_left
            · (intro w' hSw; (try dsimp only at hSw); go_simp) <;> with_reducible rfl
            change wpAnyH Tryz.prog _ _ _ _ _ _ (Act.put _ (some 5) _) _
            (try simp only [Act.put, List.setIfInBounds_toArray, List.set_cons_zero, List.set_cons_succ])
            refine wpAnyH_done (by kernel_rfl) ?_ _
            go_wp2_with fail
            have s0 := World.cell?_setCell_same w6 ⟨w.heap.size + 1, 0, none⟩ (.slice a0 (len (kid l 0)) k0) (cell_of_one HR6.out)
            refine bodyPost_ret (v := .tuple #[.agg #[.slice a0 (len (kid l 0)) k0], .bool false]) (by simp [results, Tryz.results79, go_sem, s0]) rfl ?_
            refine ret_st (XR.out.trans X6.out).drew (SA_mono (SA_ex V0.out (X6.out.trans (Ex.refl _).drew)) fun b _ hb => ?_) HS.out (by omega) (by rw [RN.out]; rfl) (fun v hv => by rw [RN.out] at hv; cases hv)
            rcases hb with hb | hb
            · exact Or.inl hb
            · exact Or.inr (by omega)
          | some g =>
            have RW : R = ifT (eqT g (kid l 1)) (kid l 0) := RV.out.trans (oneT_8s QQ.out)
            have FG : fits 4 g = true := part_fits p _ g F0.out QQ.out
            obtain ⟨z, hz⟩ : ∃ z, eqT g (kid l 1) = z := ⟨_, rfl⟩
            rw [hz] at RW
            have RZ : Hid (R = ifT z (kid l 0)) := RW
            have IS : Hid (∀ w', Ex w6 w' → Calls Tryz.prog 105 #[.agg #[.slice a5 (len g) c5], .agg #[.slice a1' (len (kid l 1)) k1']] w' fun e w'' => e = .returned (.bool z) ∧ Ex w' w'') := fun w' h => by
              have := l1Same_any 4 g (kid l 1) a5 a1' c5 k1' 0 0 w' (fits_dep _ _ FG) (by have := (fits_sm _ _ FG).1; omega) (fits_sm _ _ FG).2 (T5.out w' h) (SA_mono (SA_ex VK.out (X6.out.trans h)) fun _ _ _ => Nat.zero_le _)
              rw [hz] at this; exact this
            have CC : Hid (∀ w', Ex w6 w' → w'.cell? ⟨b, o, none⟩ = some (.slice a0 (len (kid l 0)) k0) ∧ w'.cell? ⟨w.heap.size + 1, 0, none⟩ = some (.slice none 0 0) ∧ w'.frozen? ⟨w.heap.size + 1, 0, none⟩ = false) := fun w' h => ⟨h.at u0, cell_of_one (h.blk HR6.out), free_of_one (h.blk HR6.out)⟩
            clear RW hz FG
            simp only [Option.getD_some, Option.isSome_some] at hq5 ⊢
            go_wp2_with fail
            go_region_with ((first | (go_at_call 105; refine (IS.out _ (Ex.refl _).drew).mono ?_) | (rw [if_pos (by rfl)]; go_simp; go_at_call 105; refine (IS.out _ (Ex.refl _).drew).mono ?_)); rintro e w5 ⟨rfl, hb5⟩; have xb : Ex w6 w5 := Ex.trans (Ex.refl _).drew hb5; clear u0 r0 r2; obtain ⟨u0, r0, r2⟩ := CC.out w5 xb)
            all_goals
              go_wp2_with fail
              have s0 := World.cell?_setCell_same w5 ⟨w.heap.size + 1, 0, none⟩ (.slice a0 (len (kid l 0)) k0) (CC.out w5 xb).2.1
              refine bodyPost_ret (v := .tuple #[.agg #[.slice a0 (len (kid l 0)) k0], .bool z]) (by simp [results, Tryz.results79, go_sem, s0]) rfl ?_
              refine ret_st (XR.out.trans (X6.out.trans xb)) (SA_mono (SA_ex V0.out (X6.out.trans xb)) fun b _ hb => ?_) HS.out (by omega) (by rw [RZ.out]; cases z <;> rfl) (fun v hv => by rw [RZ.out] at hv; cases z <;> cases hv; rfl)
              rcases hb with hb | hb
              · exact Or.inl hb
              · exact Or.inr (by omega)
      · have q6 : (k == 6) = false := by rw [beq_eq_false_iff_ne]; exact k6
        have q7 : (k == 7) = false := by rw [beq_eq_false_iff_ne]; exact k7
        have q8 : (k == 8) = false := by rw [beq_eq_false_iff_ne]; exact k8
        have RW : R = ifT ((((len (kid l 0) : Nat) : Int) == 0) && (((len (kid l 1) : Nat) : Int) == 0)) .nil := RV.out.trans (oneT_o l NK.out.1 NK.out.2 k6 k7 k8)
        have b0 : len (kid l 0) ≤ 2 := (fits_sm _ _ F0.out).1
        have b1 : len (kid l 1) ≤ 2 := (fits_sm _ _ F1.out).1
        obtain ⟨z, hz⟩ : ∃ z, ((((len (kid l 0) : Nat) : Int) + ((len (kid l 1) : Nat) : Int)) == 0) = z := ⟨_, rfl⟩
        have RZ : Hid (R = ifT z .nil) := by
          show _ = _
          rw [RW, ← hz, both_zero]
        have nb := NB.out
        have hn1 : wr.cell? ⟨w.heap.size + 2, 0, none⟩ = some (.slice none 0 0) := hn0
        obtain ⟨hn0', hn1'⟩ : 0 < len l ∧ 1 < len l := by have := L2.out; exact ⟨by omega, by omega⟩
        have wl : IntKind.i64.wrap (((len (kid l 0) : Nat) : Int) + ((len (kid l 1) : Nat) : Int)) = ((len (kid l 0) : Nat) : Int) + ((len (kid l 1) : Nat) : Int) := IntWalk.i64_in _ (by omega)
        clear RW hV0 hV1 b0 b1
        go_wp2_with fail
        go_region
        all_goals
          go_wp2_with fail
          have s0 := World.cell?_setCell_same wr ⟨w.heap.size + 1, 0, none⟩ (.slice none 0 0) r0
          refine bodyPost_ret (v := .tuple #[.agg #[.slice none 0 0], .bool z]) (by simp [results, Tryz.results79, go_sem, s0]) rfl ?_
          refine ⟨.nil, none, 0, by rw [RZ.out]; cases z <;> rfl, fun v hv => (by rw [RZ.out] at hv; cases z <;> cases hv; rfl), Or.inl rfl, ?_⟩
          first | exact XR.out.drew.set (by show w.heap.size ≤ w.heap.size + 1; omega) _ | exact (XR.out.set (by show w.heap.size ≤ w.heap.size + 1; omega) _).drew

end Go.Proofs.YtgpdnoghlommeaaGreatDoor

namespace Go.Proofs.YtgpdnoghlommeaaGreatDoor

open Go.RowKit Go.Deep Go.Extern.Stop Go.Stop Go.Extern

attribute [local go_sem ↓] Go.wp_at_zero Go.wp_at_succ

theorem Tryz.isTypeOf (v : Value) (w : World) : (Extern.ReflectliteType.typeOf #[.iface 238 v]).run Tryz.prog w = .ok (.iface 179 (.agg #[.pointer (some ⟨5, 238, none⟩)])) w := by kernel_rfl
/-- What the model answers for rtype's Comparable. -/
def cmpE : Array Value → Sem Value := Extern.ReflectliteType.method fun t => do Extern.Rtype.noPackHeld "Comparable" t; pure (.bool (← typeInfo t).comparable)
theorem Tryz.isComparable (w : World) : (cmpE #[.agg #[.pointer (some ⟨5, 238, none⟩)]]).run Tryz.prog w = .ok (.bool true) w := by kernel_rfl
theorem Tryz.isMethodComparable (v : Value) (w : World) : (Go.method 373 179 v "Comparable").run Tryz.prog w = .ok (188, v) w := by kernel_rfl
theorem Tryz.isComp : (Tryz.prog.info? 238).map (·.comparable) = some true := by kernel_rfl
theorem Tryz.isSize : (Tryz.prog.info? 261).map (·.size) = some 1 := by kernel_rfl

set_option maxRecDepth 100000 in
/-- errors.Is(x, x), x a pointer to an errors.errorString. -/
theorem is_same (a : Addr) (w : World) :
    Calls Tryz.prog 61 #[EV a, EV a] w fun e w' => e = .returned (.bool true) ∧ Ex w w' := by
  obtain ⟨i, hi, hcmp⟩ := Option.map_eq_some_iff.1 Tryz.isComp
  obtain ⟨j, hj, hjs⟩ := Option.map_eq_some_iff.1 Tryz.isSize
  have h8 := @run_callFunc_extern Tryz.prog 87 _ Extern.ReflectliteType.typeOf Tryz.func87 (by kernel_rfl) (by kernel_rfl) (by kernel_rfl) (by kernel_rfl)
  have h32 := @run_callFunc_extern Tryz.prog 188 _ cmpE Tryz.func188 (by kernel_rfl) (by kernel_rfl) (by kernel_rfl) (by kernel_rfl)
  have tT := Tryz.isTypeOf
  have cT := Tryz.isComparable
  have mR := Tryz.isMethodComparable
  have heq := run_eql_iface_ptr_same (P := Tryz.prog) w a Tryz.underlying70 Tryz.underlying238 hi hcmp hj
  go_enter Tryz.func61, Tryz.ntmps61
  go_wp2
  refine wp_loop_rounds 1 ?_
  rw [rounds_succ]
  go_wp2
  go_ret
  exact ⟨rfl, Ex.refl _⟩

set_option maxRecDepth 100000 in
/-- errors.Is(nil, x). -/
theorem is_nil (b : Addr) (w : World) :
    Calls Tryz.prog 61 #[.nilIface, EV b] w fun e w' => e = .returned (.bool false) ∧ Ex w w' := by
  have hn := run_eql_iface_nil_left (P := Tryz.prog) w 238 (.pointer (some b)) Tryz.underlying70
  go_enter Tryz.func61, Tryz.ntmps61
  go_wp2
  go_ret
  exact ⟨rfl, Ex.refl _⟩

end Go.Proofs.YtgpdnoghlommeaaGreatDoor

namespace Go.Proofs.YtgpdnoghlommeaaGreatDoor

open Go.RowKit Go.Deep Go.Extern.Stop Go.Stop Go.Extern

attribute [local go_sem ↓] Go.wp_at_zero Go.wp_at_succ

theorem Tryz.noIsE (v : Value) (xT : TypeId) (w : World) : (Instr.typeAssert (.iface 238 v) xT 181 true).run Tryz.prog w = .ok (.tuple #[.nilIface, .bool false]) w := run_typeAssert_lacksB Tryz.underlying181 (by kernel_rfl) (by kernel_rfl) v xT w
theorem Tryz.noUnwrapE (v : Value) (xT : TypeId) (w : World) : (Instr.typeAssert (.iface 238 v) xT 183 true).run Tryz.prog w = .ok (.tuple #[.nilIface, .bool false]) w := run_typeAssert_lacksB Tryz.underlying183 (by kernel_rfl) (by kernel_rfl) v xT w
theorem Tryz.noUnwrapsE (v : Value) (xT : TypeId) (w : World) : (Instr.typeAssert (.iface 238 v) xT 185 true).run Tryz.prog w = .ok (.tuple #[.nilIface, .bool false]) w := run_typeAssert_lacksB Tryz.underlying185 (by kernel_rfl) (by kernel_rfl) v xT w

set_option maxRecDepth 100000 in
/-- errors.Is(x, y), two different pointers to errors.errorString. -/
theorem is_other (a b : Addr) (ca cb : Array Value) (ta tb : TypeId) (w : World) (hne : a ≠ b) (ha : w.heap[a.block]? = some (.cells ca ta (0, 0))) (hb : w.heap[b.block]? = some (.cells cb tb (0, 0))) :
    Calls Tryz.prog 61 #[EV a, EV b] w fun e w' => e = .returned (.bool false) ∧ Ex w w' := by
  obtain ⟨i, hi, hcmp⟩ := Option.map_eq_some_iff.1 Tryz.isComp
  obtain ⟨j, hj, hjs⟩ := Option.map_eq_some_iff.1 Tryz.isSize
  have h8 := @run_callFunc_extern Tryz.prog 87 _ Extern.ReflectliteType.typeOf Tryz.func87 (by kernel_rfl) (by kernel_rfl) (by kernel_rfl) (by kernel_rfl)
  have h32 := @run_callFunc_extern Tryz.prog 188 _ cmpE Tryz.func188 (by kernel_rfl) (by kernel_rfl) (by kernel_rfl) (by kernel_rfl)
  have tT := Tryz.isTypeOf
  have cT := Tryz.isComparable
  have mR := Tryz.isMethodComparable
  have nE := Tryz.noIsE
  have uE := Tryz.noUnwrapE
  have vE := Tryz.noUnwrapsE
  have heq := run_eql_iface_ptr_other (P := Tryz.prog) w Tryz.underlying70 Tryz.underlying238 hi hcmp hj (by rw [hjs]; decide) hne ha hb
  go_enter Tryz.func61, Tryz.ntmps61
  go_wp2
  refine wp_loop_rounds 1 ?_
  rw [rounds_succ]
  go_wp2
  go_ret
  exact ⟨rfl, Ex.refl _⟩

/-- The two faults are there, and are not one. -/
structure Two (ea eb : Addr) (w : World) : Prop where
  one : w.cell? ⟨0, 0, none⟩ = some (EV ea)
  two : w.cell? ⟨1, 0, none⟩ = some (EV eb)
  ne : ea ≠ eb
  at1 : ∃ ca ta, w.heap[ea.block]? = some (.cells ca ta (0, 0))
  at2 : ∃ cb tb, w.heap[eb.block]? = some (.cells cb tb (0, 0))
theorem Two.ex {ea eb : Addr} {w w' : World} (h : Two ea eb w) (hx : Ex w w') : Two ea eb w' := by
  obtain ⟨h1, h2, h3, ⟨ca, ta, h4⟩, cb, tb, h5⟩ := h
  exact ⟨hx.at h1, hx.at h2, h3, ⟨ca, ta, hx.blk h4⟩, cb, tb, hx.blk h5⟩

set_option maxRecDepth 100000 in
set_option maxHeartbeats 2000000 in
theorem noKind_nil (ea eb : Addr) (w : World) (hT : Two ea eb w) : Calls Tryz.prog 29 #[.nilIface] w fun e w' => e = .returned (.bool false) ∧ Ex w w' := by
  have h1 := hT.one
  have TT : Hid _ := hT
  clear hT
  go_enter Tryz.func29, Tryz.ntmps29
  go_wp2_with fail
  refine (is_nil ea _).mono ?_
  rintro e w1 ⟨rfl, hb1⟩
  have h2 := (TT.out.ex hb1).two
  go_wp2_with fail
  refine (is_nil eb _).mono ?_
  rintro e w2 ⟨rfl, hb2⟩
  go_wp2_with fail
  go_ret
  exact ⟨rfl, hb1.trans hb2⟩
set_option maxRecDepth 100000 in
set_option maxHeartbeats 2000000 in
theorem noKind_one (ea eb : Addr) (w : World) (hT : Two ea eb w) : Calls Tryz.prog 29 #[EV ea] w fun e w' => e = .returned (.bool true) ∧ Ex w w' := by
  have h1 := hT.one
  clear hT
  go_enter Tryz.func29, Tryz.ntmps29
  go_wp2_with fail
  refine (is_same ea _).mono ?_
  rintro e w1 ⟨rfl, hb1⟩
  go_wp2_with fail
  go_ret
  exact ⟨rfl, hb1⟩
set_option maxRecDepth 100000 in
set_option maxHeartbeats 2000000 in
theorem noKind_two (ea eb : Addr) (w : World) (hT : Two ea eb w) : Calls Tryz.prog 29 #[EV eb] w fun e w' => e = .returned (.bool true) ∧ Ex w w' := by
  have h1 := hT.one
  have TT : Hid _ := hT
  obtain ⟨ca, ta, ha⟩ := hT.at1
  obtain ⟨cb, tb, hb⟩ := hT.at2
  have IO : Hid (Calls Tryz.prog 61 #[EV eb, EV ea] w fun e w' => e = .returned (.bool false) ∧ Ex w w') := is_other eb ea cb ca tb ta w (fun e => hT.ne e.symm) hb ha
  clear hT ha hb
  go_enter Tryz.func29, Tryz.ntmps29
  go_wp2_with fail
  refine Calls.mono IO.out ?_
  rintro e w1 ⟨rfl, hb1⟩
  have h2 := (TT.out.ex hb1).two
  go_wp2_with fail
  refine (is_same eb _).mono ?_
  rintro e w2 ⟨rfl, hb2⟩
  go_wp2_with fail
  go_ret
  exact ⟨rfl, hb1.trans hb2⟩

end Go.Proofs.YtgpdnoghlommeaaGreatDoor

namespace Go.Proofs.YtgpdnoghlommeaaGreatDoor

open Go.RowKit Go.Deep Go.Maps Go.WideMaps

attribute [local go_sem ↓] Go.wp_at_zero Go.wp_at_succ

/-- Of which type a term is, by names and their types, and whether it is of one. -/
def typeR : Option F → F × Bool
  | some g => (g, true)
  | none => (.nil, false)
def kindR (ns : List ByteArray) (tl : F) (k n : Int) (s : ByteArray) (p : List Int) (f : TM) : F × Bool :=
  if (decide (ns.length = len tl) && (namesB ns && (fitAll tl && termB ns 8 k n s p f))) = true then typeR (oneT (setAll (fun _ => .nil) ns tl ns.length) k s p (evT (setAll (fun _ => .nil) ns tl ns.length) f)) else (.nil, false)
theorem kindR_len {ns : List ByteArray} {tl : F} {k n : Int} {s : ByteArray} {p : List Int} {f : TM} (h : ns.length ≠ len tl) : kindR ns tl k n s p f = (.nil, false) := by
  unfold kindR; rw [decide_eq_false h]; rfl
theorem kindR_names {ns : List ByteArray} {tl : F} {k n : Int} {s : ByteArray} {p : List Int} {f : TM} (h : namesB ns = false) : kindR ns tl k n s p f = (.nil, false) := by
  unfold kindR; rw [h]; simp
theorem kindR_fit {ns : List ByteArray} {tl : F} {k n : Int} {s : ByteArray} {p : List Int} {f : TM} (h : fitAll tl = false) : kindR ns tl k n s p f = (.nil, false) := by
  unfold kindR; rw [h]; simp
theorem kindR_term {ns : List ByteArray} {tl : F} {k n : Int} {s : ByteArray} {p : List Int} {f : TM} (h : termB ns 8 k n s p f = false) : kindR ns tl k n s p f = (.nil, false) := by
  unfold kindR; rw [h]; simp
theorem kindR_ok {ns : List ByteArray} {tl : F} {k n : Int} {s : ByteArray} {p : List Int} {f : TM} (h1 : ns.length = len tl) (h2 : namesB ns = true) (h3 : fitAll tl = true) (h4 : termB ns 8 k n s p f = true) : kindR ns tl k n s p f = typeR (oneT (setAll (fun _ => .nil) ns tl ns.length) k s p (evT (setAll (fun _ => .nil) ns tl ns.length) f)) := by
  unfold kindR; rw [decide_eq_true h1, h2, h3, h4]; rfl
theorem setAll_fit {L : ByteArray → F} (hL : ∀ s, fits 4 (L s) = true) {ns : List ByteArray} {l : F} (hl : fitAll l = true) : ∀ k, k ≤ len l → ∀ s, fits 4 (setAll L ns l k s) = true
  | 0, _, s => hL s
  | k + 1, h, s => by
    rw [setAll, setK]
    split
    · exact fitAll_at hl (by omega)
    · exact setAll_fit hL hl k (by omega) s

/-- A type, or one of the faults. -/
def KoP (ea eb : Addr) (R : F × Bool) (w : World) (e : Ending) (w' : World) : Prop :=
  ∃ er a' c', e = .returned (.tuple #[.agg #[.slice a' (len R.1) c'], er]) ∧ (R.2 = true → er = .nilIface) ∧ (R.2 = false → er = EV ea ∨ er = EV eb) ∧ SA w' (fun _ => True) R.1 a' ∧ Ex w w'

/-- What KindTerm tells. -/
def KtP (R : F × Bool) (w : World) (e : Ending) (w' : World) : Prop := ∃ a' c', e = .returned (.tuple #[.agg #[.slice a' (len R.1) c'], .bool R.2]) ∧ TA w' w.heap.size R.1 a' ∧ Ex w w'
theorem kindR_nil {ns : List ByteArray} {tl : F} {k n : Int} {s : ByteArray} {p : List Int} {f : TM} (h : (kindR ns tl k n s p f).2 = false) : (kindR ns tl k n s p f).1 = .nil := by
  unfold kindR at h ⊢
  split at h
  · rename_i hc
    rw [if_pos hc]
    cases hO : oneT (setAll (fun _ => .nil) ns tl ns.length) k s p (evT (setAll (fun _ => .nil) ns tl ns.length) f) with
    | none => rfl
    | some g => rw [hO] at h; cases h
  · rename_i hc
    rw [if_neg hc]
theorem kindR_fits {ns : List ByteArray} {tl : F} {k n : Int} {s : ByteArray} {p : List Int} {f : TM} : fits 4 (kindR ns tl k n s p f).1 = true := by
  unfold kindR
  split
  · rename_i h
    simp only [Bool.and_eq_true, decide_eq_true_eq] at h
    obtain ⟨h1, h2, h3, h4⟩ := h
    rw [termB_tok] at h4
    simp only [Bool.and_eq_true] at h4
    have HL := setAll_fit (L := fun _ => .nil) (fun _ => rfl) (ns := ns) h3 ns.length (by omega)
    cases hE : evT (setAll (fun _ => .nil) ns tl ns.length) f with
    | none => rfl
    | some l =>
      cases hO : oneT (setAll (fun _ => .nil) ns tl ns.length) k s p (some l) with
      | none => rfl
      | some g => exact one_fit HL (evt_fit HL ns 7 f h4.2.2 l hE) (evT_len hE) (tok_shape h4.1).2.2 hO
  · rfl

end Go.Proofs.YtgpdnoghlommeaaGreatDoor

namespace Go.Proofs.YtgpdnoghlommeaaGreatDoor

open Go.RowKit Go.Deep Go.Maps Go.WideMaps

attribute [local go_sem ↓] Go.wp_at_zero Go.wp_at_succ

theorem tok_leaf {k n : Int} {s : ByteArray} {p : List Int} {l : Nat} (h : tokB k n s p l = true) (hk : k = 1 ∨ k = 2) : l = 0 := by
  rcases hk with rfl | rfl
  · simp only [tokB_1, Bool.and_eq_true, decide_eq_true_eq] at h; exact h.2.2.1
  · simp only [tokB_2, Bool.and_eq_true, decide_eq_true_eq] at h; exact h.2.2

theorem sterm_all (B : Nat) (T S : Nat → Prop) (ns : List ByteArray) (tl : F) (na ta : Option Addr) (nc tc : Nat) (hnl : ns.length ≤ 1000000000) (hlen : len tl = ns.length) (hft : fitAll tl = true) : ∀ (d : Nat) (k n : Int) (s : ByteArray) (p : List Int) (pa : Option Addr) (pc : Nat) (f : TM) (a : Option Addr) (c : Nat) (w : World),
    w.cell? ⟨B, 0, none⟩ = some (.slice na ns.length nc) → w.cell? ⟨B, 1, none⟩ = some (.slice ta (len tl) tc) → XA w 0 ns na → TTop w T S tl ta → (∀ b, S b → b < w.heap.size) → p.length ≤ 1000000000 → PA w 0 p pa → MA w 0 f a → tlen f ≤ 100000000 → TSm f → termB ns d k n s p f = true →
    Calls Tryz.prog 79 #[.pointer (some ⟨B, 0, none⟩), .agg #[.int .i64 k, .int .i64 n, .string s, .slice pa p.length pc, .slice a (tlen f) c]] w (StP S (oneT (setAll nilK ns tl ns.length) k s p (evT (setAll nilK ns tl ns.length) f)) w) := by
  have HL := setAll_fit (L := nilK) (fun _ => rfl) (ns := ns) hft ns.length (by omega)
  intro d
  induction d with
  | zero => intro k n s p pa pc f a c w _ _ _ _ _ _ _ _ _ _ h; simp [termB] at h
  | succ d ih =>
    intro k n s p pa pc f a c w hB1 hB2 hX hV hS hp hP hM hl hsm ht
    rw [termB_tok] at ht
    simp only [Bool.and_eq_true, Bool.or_eq_true, Bool.not_eq_true', decide_eq_false_iff_not] at ht
    obtain ⟨t1, t2, t3⟩ := ht
    refine sterm_by B T S ns tl na ta nc tc k n s p pa pc f a c w hnl hlen hB1 hB2 hX hV hS hp hP hM hl (tok_shape t1).2.2 (tok_leaf t1) (fun e => t2.resolve_left fun h => h e) (evt_fit HL ns d f t3) fun j hj pa' pc' a' c' w' hx hP' hM' => ?_
    obtain ⟨g1, g2, g3⟩ := TSm_kid hsm j hj
    have hkj : kidB ns d f j = true := by
      simp only [kidsB, List.all_eq_true] at t3
      exact t3 j (List.mem_range.2 hj)
    have hl2 : tlen (tkid f j) ≤ 2 := by
      cases d with
      | zero => simp [kidB, termB] at hkj
      | succ d =>
        rw [kidB, termB_tok] at hkj
        simp only [Bool.and_eq_true] at hkj
        exact (tok_shape hkj.1).2.1
    exact ih _ _ _ _ pa' pc' _ a' c' w' (hx.at hB1) (hx.at hB2) (XA_below hX hx) (hV.ex hx) (fun b hb => Nat.lt_of_lt_of_le (hS b hb) hx.size) g1 hP' hM' (by omega) g3 hkj

end Go.Proofs.YtgpdnoghlommeaaGreatDoor

namespace Go.Proofs.YtgpdnoghlommeaaGreatDoor

open Go.RowKit Go.Deep Go.Maps Go.WideMaps

/-- The two cells of an environment. -/
def ET (w : World) (B : Nat) (nv tv : Value) : Prop := w.heap[B]? = some (.cells #[nv, tv] 64 (0, 0))
theorem ET.cell {w : World} {B : Nat} {nv tv : Value} (h : ET w B nv tv) : w.cell? ⟨B, 0, none⟩ = some nv ∧ w.cell? ⟨B, 1, none⟩ = some tv := by
  unfold ET at h
  constructor <;> simp [World.cell?, h]
theorem ET.lt {w : World} {B : Nat} {nv tv : Value} (h : ET w B nv tv) : B < w.heap.size := lt_of_block h
theorem ET.ex {w w' : World} {B : Nat} {nv tv : Value} (h : ET w B nv tv) (hx : Ex w w') : ET w' B nv tv := (hx.block B h.lt).trans h
theorem ET.free {w : World} {B i : Nat} {nv tv : Value} (h : ET w B nv tv) : w.frozen? ⟨B, i, none⟩ = false := by
  unfold ET at h
  simp [World.frozen?, h]
theorem ET.nm {w : World} {B : Nat} {nv tv x : Value} (h : ET w B nv tv) : ET (w.setCell ⟨B, 0, none⟩ x) B x tv := by
  unfold ET at *
  simp [World.setCell, Array.getElem?_modify, h]
theorem ET.ty {w : World} {B : Nat} {nv tv x : Value} (h : ET w B nv tv) : ET (w.setCell ⟨B, 1, none⟩ x) B nv x := by
  unfold ET at *
  simp [World.setCell, Array.getElem?_modify, h]

/-- An environment: its two cells, its names and its types in rows of their own. -/
structure EnvT (w : World) (base B : Nat) (X : Nat → Prop) (ns : List ByteArray) (tl : F) (nv tv : Value) : Prop where
  cells : ET w B nv tv
  lo : base ≤ B
  names : w.ownsRow base 9 1 nv ns.length (ns.map Value.string)
  types : RT w base (Out3 X B nv tv) tv tl
  nB : nv.ownBlock ≠ some B
  tB : tv.ownBlock ≠ some B
  nt : ∀ g, nv.ownBlock = some g → tv.ownBlock ≠ some g
theorem EnvT.ex {w w' : World} {base B : Nat} {X : Nat → Prop} {ns : List ByteArray} {tl : F} {nv tv : Value} (h : EnvT w base B X ns tl nv tv) (hx : Ex w w') : EnvT w' base B X ns tl nv tv :=
  ⟨h.cells.ex hx, h.lo, row_ex h.names hx, h.types.ex hx, h.nB, h.tB, h.nt⟩
/-- What is not the environment's own may turn, but what its types lie in. -/
theorem EnvT.keep {w w' : World} {base B : Nat} {X S : Nat → Prop} {ns : List ByteArray} {tl : F} {nv tv : Value} (h : EnvT w base B X ns tl nv tv) (hf : FrS S w w') (hS : ∀ b, S b → X b) (hX : ∀ b, Own3 B nv tv b → ¬ X b) : EnvT w' base B X ns tl nv tv :=
  ⟨(hf.block B h.cells.lt fun hs => hX B (Or.inl rfl) (hS B hs)).trans h.cells, h.lo, row_fr h.names fun g hg => hf.block g (h.names.lt g hg).2 fun hs => hX g (Or.inr (Or.inl hg)) (hS g hs), h.types.keep (fun g hg => hf.block g (RT.own h.types g hg).2 fun hs => hX g (Or.inr (Or.inr hg)) (hS g hs)) fun b hl hb => hf.block b hl fun hs => hb.1 (hS b hs), h.nB, h.tB, h.nt⟩
/-- What an environment's names are of, for its terms. -/
theorem EnvT.reads {w : World} {base B : Nat} {X : Nat → Prop} {ns : List ByteArray} {tl : F} {nv tv : Value} (h : EnvT w base B X ns tl nv tv) : ∃ na nc ta tc, nv = .slice na ns.length nc ∧ tv = .slice ta (len tl) tc ∧ XA w 0 ns na ∧ SA w (fun b => b < w.heap.size ∧ (tv.ownBlock = some b ∨ Out3 X B nv tv b)) tl ta := by
  obtain ⟨ta, tc, e, hT⟩ := h.types.top
  have hX : ∃ na nc, nv = .slice na ns.length nc ∧ XA w 0 ns na := by
    have hc := fun g (hg : nv.ownBlock = some g) => h.names.cells hg
    obtain ⟨_, ⟨e, h0⟩ | ⟨g, cap, cur, e, hb, hb2, _⟩⟩ := id h.names
    · exact ⟨none, 0, by rw [e, h0], Or.inl h0⟩
    · refine ⟨some ⟨g, 0, none⟩, cap, e, Or.inr ⟨g, 0, rfl, Nat.zero_le _, fun i hi => ?_⟩⟩
      have k1 := hc g (by rw [e]; rfl) i (.string (ns.getD i ⟨#[]⟩)) (by simp [List.getD, hi])
      rw [Go.WideShapes.add_plain] at k1
      exact k1
  obtain ⟨na, nc, e1, e2⟩ := hX
  exact ⟨na, nc, ta, tc, e1, e, e2, hT.sa (fun b hl hb => ⟨hl, Or.inl hb⟩) fun b hl hb => ⟨hl, Or.inr hb⟩⟩

end Go.Proofs.YtgpdnoghlommeaaGreatDoor
