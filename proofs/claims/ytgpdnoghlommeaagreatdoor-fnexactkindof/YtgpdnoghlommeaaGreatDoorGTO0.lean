/- Walks: the types of terms, and types that are held against each other, by the specification. Walks: names and types anew, by the specification. Walks: a type of the laws turned into one of the program. Walks: numbers copied, compared and written over; types gone through by the exact laws. Cells of a block, set one behind the other. -/
import Derived.Test.YtgpdnoghlommeaaGreatDoorGKO7
import Derived.Deep.RegionHeld3
import Derived.Deep.CutRange
import Derived.Test.YtgpdnoghlommeaaGreatDoorGE1
import Derived.Test.YtgpdnoghlommeaaGreatDoorGTM2
namespace Go.Proofs.YtgpdnoghlommeaaGreatDoor

open Go.RowKit Go.Deep Go.Maps Go.WideMaps

attribute [local go_sem ↓] Go.wp_at_zero Go.wp_at_succ

/-- Types, and whether there are such. -/
def StsP (S : Nat → Prop) (R : Option F) (w : World) (e : Ending) (w' : World) : Prop :=
  ∃ (g : F) (a' : Option Addr) (c' : Nat), e = .returned (.tuple #[.slice a' (len g) c', .bool R.isSome]) ∧ (∀ v, R = some v → v = g) ∧ SA w' (fun b => S b ∨ w.heap.size ≤ b) g a' ∧ Ex w w'

set_option maxRecDepth 100000 in
set_option maxHeartbeats 4000000 in
theorem stermsT_any (B : Nat) (T S : Nat → Prop) (ns : List ByteArray) (tl : F) (na ta : Option Addr) (nc tc : Nat) (hnl : ns.length ≤ 1000000000) (hlen : len tl = ns.length) (hft : fitAll tl = true) (f : TM) (a : Option Addr) (c : Nat) (w : World)
    (hB1 : w.cell? ⟨B, 0, none⟩ = some (.slice na ns.length nc)) (hB2 : w.cell? ⟨B, 1, none⟩ = some (.slice ta (len tl) tc)) (hX : XA w 0 ns na) (hV : TTop w T S tl ta) (hS : ∀ b, S b → b < w.heap.size) (hM : MA w 0 f a) (hl : tlen f ≤ 100000000) (hsm : TSm f) (hk : kidsB ns 8 f = true) :
    Calls Tryz.prog 54 #[.pointer (some ⟨B, 0, none⟩), .slice a (tlen f) c] w (StsP S (evT (setAll nilK ns tl ns.length) f) w) := by
  have M : Hid (∀ w', Ex w w' → MA w' 0 f a) := fun _ h => MA_below hM h
  have HS : Hid (∀ b, S b → b < w.heap.size) := hS
  have HLN : Hid (tlen f ≤ 100000000) := hl
  obtain ⟨L, hL⟩ : ∃ L, L = setAll nilK ns tl ns.length := ⟨_, rfl⟩
  have I : Hid (∀ j, j < tlen f → ∀ (pa : Option Addr) (pc : Nat) (a' : Option Addr) (c' : Nat) (w' : World), Ex w w' → PA w' 0 (tpath f j) pa → MA w' 0 (tkid f j) a' → Calls Tryz.prog 79 #[.pointer (some ⟨B, 0, none⟩), .agg #[.int .i64 (tkind f j), .int .i64 (tnum f j), .string (tname f j), .slice pa (tpath f j).length pc, .slice a' (tlen (tkid f j)) c']] w' (StP S (evTAt L f j) w')) := fun j hj pa pc a' c' w' hx hp hm => by
    obtain ⟨g1, g2, g3⟩ := TSm_kid hsm j hj
    have hkj : kidB ns 8 f j = true := by
      simp only [kidsB, List.all_eq_true] at hk
      exact hk j (List.mem_range.2 hj)
    have hl2 : tlen (tkid f j) ≤ 2 := by
      have h := hkj
      rw [kidB, termB_tok] at h
      simp only [Bool.and_eq_true] at h
      exact (tok_shape h.1).2.1
    rw [hL]
    exact sterm_all B T S ns tl na ta nc tc hnl hlen hft 8 _ _ _ _ pa pc _ a' c' w' (hx.at hB1) (hx.at hB2) (XA_below hX hx) (hV.ex hx) (fun b hb => Nat.lt_of_lt_of_le (hS b hb) hx.size) g1 hp hm (by omega) g3 hkj
  rw [← hL]
  clear hM hS hB1 hB2 hX hV hsm hk hL hft hlen hnl
  obtain ⟨R, hR⟩ : ∃ R, R = evT L f := ⟨_, rfl⟩
  have RR : Hid (R = evT L f) := hR
  rw [← hR]
  clear hR
  go_enter Tryz.func54, Tryz.ntmps54
  go_wp2_with fail
  go_loopw [6, 7, 8, 9] (fun ov i _ _ wr => ∃ (j : Nat) (l : F), j ≤ tlen f ∧ i = .int .i64 j ∧ evTP L f j = some l ∧ len l = j ∧ KR wr w.heap.size S ov l ∧ Ex w wr) (fun _ i _ _ _ => tlen f - (intOf i).toNat)
  case atStart => exact ⟨0, .nil, by omega, rfl, rfl, rfl, KR.empty _ _, Ex.new _ _⟩
  case round =>
    obtain ⟨j, l, hj, rfl, hev, hlen, hvr, hx⟩ := hrel
    have EVP : Hid (evTP L f j = some l) := hev
    have LJ : Hid (len l = j) := hlen
    have E : Hid (Ex w wr) := hx
    obtain ⟨av, ac, rfl, hvs⟩ := hvr.vs
    have VV : Hid (SA wr (fun b => S b ∨ w.heap.size ≤ b) l av) := hvs
    have O : Hid (KR wr w.heap.size S (.slice av (len l) ac) l) := hvr
    clear hx hev hvr hlen hvs
    by_cases hlt : j < tlen f
    · obtain ⟨b, o, rfl, _, hbs, hk⟩ := MA_at (M.out wr E.out) (by omega)
      obtain ⟨e0, e1, e2, ⟨pa, pc, e3, hp'⟩, a', c', e4, hm'⟩ := hk j hlt
      have HI : Hid (∀ w', Ex wr w' → Calls Tryz.prog 79 #[.pointer (some ⟨B, 0, none⟩), .agg #[.int .i64 (tkind f j), .int .i64 (tnum f j), .string (tname f j), .slice pa (tpath f j).length pc, .slice a' (tlen (tkid f j)) c']] w' (StP S (evTAt L f j) w')) := fun w' h => I.out j hlt pa pc a' c' w' (E.out.trans h) (PA_below (PS_pa.1 hp'.1) h) (MA_below hm' h)
      have V : Hid (evTAt L f j = none → R = none) := fun h => RR.out.trans (evT_none hlt h)
      clear hk hp' hm'
      go_wp2_with fail
      refine Calls.mono (HI.out _ (Ex.refl _)) ?_
      rintro e w1 ⟨g, a1, c1', rfl, hg, hV1, hb1⟩
      have E1 : Hid (Ex wr w1) := hb1
      have X1 : Hid (Ex w w1) := E.out.trans hb1
      clear hb1 HI e0 e1 e2 e3 e4
      cases hkb : evTAt L f j with
      | none =>
        have HR : Hid (R = none) := V.out hkb
        clear hkb hV1 hg
        simp only [Option.isSome_none]
        go_wp2_with fail
        refine bodyPost_ret (v := .tuple #[.slice (some ⟨_, 0, none⟩) 0 0, .bool false]) (by simp [results, Tryz.results54, go_sem]; first | rfl | done) rfl ?_
        rw [HR.out]
        exact ⟨.nil, _, 0, rfl, fun v h => (by cases h), Or.inl rfl, (X1.out.alloc _).alloc _⟩
      | some g' =>
        rw [hkb] at hg
        obtain rfl := hg g' rfl
        have V1 : Hid (SA w1 (fun b => S b ∨ wr.heap.size ≤ b) g' a1) := hV1
        have EV1 : Hid (evTAt L f j = some g') := hkb
        clear hkb hV1 hg
        simp only [Option.isSome_some]
        have E2 : Hid (Ex w ((w1.alloc (.cells #[.slice a1 (len g') c1'] 55)).alloc (.cells #[.slice a1 (len g') c1'] 55))) := (X1.out.alloc _).alloc _
        have O3 : Hid (KR ((w1.alloc (.cells #[.slice a1 (len g') c1'] 55)).alloc (.cells #[.slice a1 (len g') c1'] 55)) w.heap.size S (.slice av (len l) ac) l) := KR.ex O.out ((E1.out.alloc _).alloc _)
        have C20 : Hid (((w1.alloc (.cells #[.slice a1 (len g') c1'] 55)).alloc (.cells #[.slice a1 (len g') c1'] 55)).cell? ⟨w1.heap.size + 1, 0, none⟩ = some (.slice a1 (len g') c1')) := by show _ = _; simp
        have V3 : Hid (SA ((w1.alloc (.cells #[.slice a1 (len g') c1'] 55)).alloc (.cells #[.slice a1 (len g') c1'] 55)) (fun b => (S b ∨ w.heap.size ≤ b) ∧ (Value.slice av (len l) ac).ownBlock ≠ some b) g' a1) := SA_mono (SA_ex V1.out ((Ex.new _ _).alloc _)) fun b _ hb => by
          have ho := KR.own O.out
          have hz := E.out.size
          rcases hb with hb | hb
          · exact ⟨Or.inl hb, fun e => by have := (ho b e).1; have := HS.out b hb; omega⟩
          · exact ⟨Or.inr (by omega), fun e => by have := (ho b e).2; omega⟩
        have j6 : len l ≤ 100000000 := by have := LJ.out; have := HLN.out; omega
        have EV2 : Hid (evTP L f (j + 1) = some (snoc l 0 g')) := evTP_snoc EVP.out EV1.out
        clear O E V1 EV1 EVP VV
        go_wp2_with (at_builtin; refine wpList_append_type rfl _ _ rfl w E2.out S w.heap.size (Nat.le_refl _) E2.out.size (.slice av (len l) ac) l rfl O3.out (w1.heap.size + 1) 1 g' a1 c1' rfl C20.out V3.out j6 ?_)
        intro av3 ac3 w3 hown3 hx3 _
        have O4 : Hid (KR w3 w.heap.size S (.slice av3 (len l + 1) ac3) (snoc l 0 g')) := hown3
        have E3 : Hid (Ex w w3) := hx3
        clear hown3 hx3 O3 E2 C20 V3
        go_wp2_with fail
        go_roundw
        case rel => exact ⟨j + 1, _, by omega, by go_num, EV2.out, by rw [len_snoc, LJ.out], O4.out, E3.out⟩
        case measure => simp [intOf]; omega
    · have hje : j = tlen f := by omega
      have HR : Hid (R = some l) := by
        show _ = _
        rw [RR.out, ← evTP_all, ← hje]; exact EVP.out
      go_wp2_with fail
      exact bodyPost_ret (v := .tuple #[.slice av (len l) ac, .bool true]) (by simp [results, Tryz.results54, go_sem]) rfl ⟨l, av, ac, by rw [HR.out]; rfl, fun v h => by rw [HR.out] at h; exact (Option.some.inj h).symm, VV.out, E.out⟩

set_option linter.unusedSimpArgs false in
set_option maxRecDepth 100000 in
set_option maxHeartbeats 4000000 in
theorem sallT_any (l r : F) (a : Option Addr) (c : Nat) (a' : Option Addr) (c' : Nat) (w : World) (S S' : Nat → Prop) (hl : len l ≤ 1000000000) (hr : len r ≤ 1000000000) (hfl : fitL l) (hfr : fitL r) (hV : SA w S l a) (hV' : SA w S' r a') :
    Calls Tryz.prog 78 #[.slice a (len l) c, .slice a' (len r) c'] w fun e w' => e = .returned (.bool (eqT l r)) ∧ Ex w w' := by
  have V : Hid (∀ w', Ex w w' → SA w' S l a ∧ SA w' S' r a') := fun _ h => ⟨SA_ex hV h, SA_ex hV' h⟩
  have FT : Hid (fitL l ∧ fitL r) := ⟨hfl, hfr⟩
  obtain ⟨R, hR⟩ : ∃ R, R = eqT l r := ⟨_, rfl⟩
  have RR : Hid (R = eqT l r) := hR
  rw [← hR]
  clear hV hV' hfl hfr hR
  by_cases hn : len l = len r
  · have e1 : ((len l : Int) != (len r : Int)) = false := by simp [hn]
    have LE : Hid (len l = len r) := hn
    clear hn
    go_enter Tryz.func78, Tryz.ntmps78
    go_wp2_with fail
    go_loopw [5] (fun i wr => ∃ (j : Nat), j ≤ len l ∧ i = .int .i64 j ∧ (∀ k, k < j → eqT (kid l k) (kid r k) = true) ∧ Ex w wr) (fun i _ => len l - (intOf i).toNat)
    case atStart => exact ⟨0, Nat.zero_le _, rfl, fun k hk => by omega, Ex.refl _⟩
    case round =>
      obtain ⟨j, hj, rfl, hall, hx⟩ := hrel
      have A : Hid (∀ k, k < j → eqT (kid l k) (kid r k) = true) := hall
      have E : Hid (Ex w wr) := hx
      clear hall hx
      by_cases hlt : j < len l
      · have hlr : j < len r := by have := LE.out; omega
        have hli : (j : Int) < (len r : Int) := by omega
        obtain ⟨b, o, rfl, _, hbs, hk⟩ := SA_at (V.out wr E.out).1 (by omega)
        obtain ⟨a1, c1, hc1, ht1⟩ := hk j hlt
        obtain ⟨b', o', rfl, _, hbs', hk'⟩ := SA_at (V.out wr E.out).2 (by omega)
        obtain ⟨a2, c2, hc2, ht2⟩ := hk' j hlr
        have TS : Hid (∀ w', Ex wr w' → Calls Tryz.prog 105 #[.agg #[.slice a1 (len (kid l j)) c1], .agg #[.slice a2 (len (kid r j)) c2]] w' fun e w'' => e = .returned (.bool (eqT (kid l j) (kid r j))) ∧ Ex w' w'') := fun w' h => by
          have f1 := fits_sm _ _ (FT.out.1 j hlt)
          exact l1Same_any 4 (kid l j) (kid r j) a1 a2 c1 c2 0 0 w' (fits_dep _ _ (FT.out.1 j hlt)) (by omega) f1.2 (SA_mono (SA_ex ht1 h) fun _ _ _ => Nat.zero_le _) (SA_mono (SA_ex ht2 h) fun _ _ _ => Nat.zero_le _)
        have KS : Hid (∀ w', Ex wr w' → (Ex wr w' ∧ w'.cell? ⟨b, o + j, none⟩ = some (.slice a1 (len (kid l j)) c1) ∧ w'.cell? ⟨b', o' + j, none⟩ = some (.slice a2 (len (kid r j)) c2))) := fun w' h => ⟨h, h.at hc1, h.at hc2⟩
        have BN : Hid (eqT (kid l j) (kid r j) = false → R = false) := fun h => RR.out.trans (eqT_bad l r j hlt h)
        have BY : Hid (eqT (kid l j) (kid r j) = true → ∀ k, k < j + 1 → eqT (kid l k) (kid r k) = true) := fun h k hk => by
          by_cases e : k = j
          · rw [e]; exact h
          · exact A.out k (by omega)
        obtain ⟨z, hz⟩ : ∃ z, eqT (kid l j) (kid r j) = z := ⟨_, rfl⟩
        rw [hz] at TS BN BY
        clear hk hk' ht1 ht2 hz
        go_wp2_with fail
        clear hc1 hc2
        go_region_held3 (fun w' => Ex wr w' ∧ w'.cell? ⟨b, o + j, none⟩ = some (.slice a1 (len (kid l j)) c1) ∧ w'.cell? ⟨b', o' + j, none⟩ = some (.slice a2 (len (kid r j)) c2)) ((refine KS.out _ ?_; first | exact (Ex.refl _).drew | exact Ex.trans (And.left ‹Ex _ _ ∧ _›) ‹Ex _ _›)) (first | (go_at_call 105; refine (TS.out _ (And.left ‹Ex _ _ ∧ _›)).mono ?_; rintro e w7 ⟨rfl, hb7⟩))
        have XW : Hid (Ex w _) := E.out.trans (And.left ‹Ex wr _ ∧ _›)
        cases z with
        | false =>
          have HR : Hid (R = false) := BN.out rfl
          go_wp2_with fail
          go_ret
          exact ⟨ret_b HR.out.symm, XW.out⟩
        | true =>
          have HB : Hid _ := BY.out rfl
          go_wp2_with fail
          go_roundw
          case rel => exact ⟨j + 1, by omega, by go_num, HB.out, XW.out⟩
          case measure => simp [intOf]; omega
      · have HR : Hid (R = true) := RR.out.trans (eqT_good l r LE.out fun i hi => A.out i (by omega))
        go_wp2_with fail
        go_ret
        exact ⟨ret_b HR.out.symm, E.out⟩
  · have e1 : ((len l : Int) != (len r : Int)) = true := by
      rw [bne_iff_ne]; omega
    have HR : Hid (R = false) := RR.out.trans (eqT_len l r hn)
    clear hn
    go_enter Tryz.func78, Tryz.ntmps78
    go_wp2_with fail
    go_ret
    exact ⟨ret_b HR.out.symm, Ex.refl _⟩

end Go.Proofs.YtgpdnoghlommeaaGreatDoor

namespace Go.Proofs.YtgpdnoghlommeaaGreatDoor

open Go.RowKit Go.Deep Go.Maps Go.WideMaps

attribute [local go_sem ↓] Go.wp_at_zero Go.wp_at_succ

set_option linter.unusedSimpArgs false

theorem XS_own {w : World} {base : Nat} {v : Value} {p : List ByteArray} (h : w.ownsRow base 9 1 v p.length (p.map Value.string)) : ∃ a c, v = .slice a p.length c ∧ XS w (fun b => v.ownBlock = some b) p a := by
  obtain ⟨a, c, rfl, hX⟩ := own_texts h rfl
  refine ⟨a, c, rfl, ?_⟩
  rcases hX with hX | ⟨b, o, e, _, hc⟩
  · exact Or.inl hX
  · subst e; exact Or.inr ⟨b, o, rfl, rfl, hc⟩

set_option maxRecDepth 100000 in
set_option maxHeartbeats 8000000 in
theorem scopyT_any (base B : Nat) (X : Nat → Prop) (ns : List ByteArray) (tl : F) (nv tv : Value) (W1 : World) (hE : EnvT W1 base B X ns tl nv tv) (hn : ns.length ≤ 900000) (ht : len tl ≤ 900000) :
    Calls Tryz.prog 77 #[.pointer (some ⟨B, 0, none⟩)] W1 fun e w' => ∃ IB vN vV, e = .returned (.pointer (some ⟨IB, 0, none⟩)) ∧ EnvT w' W1.heap.size IB (fun b => X b ∨ Own3 B nv tv b) ns tl vN vV ∧ Ex W1 w' := by
  obtain ⟨na, nc, hnv, hX⟩ := XS_own hE.names
  obtain ⟨ta, tc, htv, hV⟩ := hE.types.top
  have hXN : XA W1 0 ns na := XS_mono hX fun _ _ _ => Nat.zero_le _
  have hVV : TTop W1 (fun b => tv.ownBlock = some b) (fun b => Out3 X B nv tv b ∧ b < W1.heap.size) tl ta := hV.mono (fun _ _ h => h) fun b hl hs => ⟨hs, hl⟩
  obtain ⟨SV, hSVe⟩ : ∃ SV : Nat → Prop, SV = fun b => Out3 X B nv tv b ∧ b < W1.heap.size := ⟨_, rfl⟩
  obtain ⟨TV, hTVe⟩ : ∃ TV : Nat → Prop, TV = fun b => tv.ownBlock = some b := ⟨_, rfl⟩
  rw [← hSVe, ← hTVe] at hVV
  have hSVo : ∀ b, SV b → Out3 X B nv tv b := fun b hb => by rw [hSVe] at hb; exact hb.1
  have hSV : ∀ b, SV b → b < W1.heap.size := fun b hb => by rw [hSVe] at hb; exact hb.2
  have h63 : ([] : List ByteArray).length + ns.length ≤ 1000000 := by show 0 + ns.length ≤ _; omega
  have h63v : len (.nil : F) + len tl ≤ 1000000 := by show 0 + len tl ≤ _; omega
  obtain ⟨x0, x1⟩ := hE.cells.cell
  rw [hnv] at x0
  rw [htv] at x1
  have KS : Hid (∀ w', Ex W1 w' → Ex W1 w' ∧ w'.cell? ⟨B, 0, none⟩ = some (.slice na ns.length nc) ∧ w'.cell? ⟨B, 1, none⟩ = some (.slice ta (len tl) tc)) := fun w' h => ⟨h, h.at x0, h.at x1⟩
  clear hE hX hV hn ht hSVe hTVe hnv htv
  go_enter Tryz.func77, Tryz.ntmps77
  go_upto_region 1 with fail
  clear x0 x1
  refine wp_region_held_drew (S := fun w' => Ex W1 w' ∧ w'.cell? ⟨B, 0, none⟩ = some (.slice na ns.length nc) ∧ w'.cell? ⟨B, 1, none⟩ = some (.slice ta (len tl) tc)) (by kernel_rfl) (KS.out _ (Ex.refl _).drew) (fun hHeld => ?_)
  obtain ⟨y0, hy0⟩ : ∃ y0, y0 = W1.drew := ⟨_, rfl⟩
  rw [← hy0] at hHeld ⊢
  have xy0 : Ex W1 y0 := hy0 ▸ (Ex.refl _).drew
  clear hy0
  refine wpAnyH_take (i := 1) (v := ?_) rfl (by kernel_rfl) (by kernel_rfl) (by kernel_rfl) (fun _ _ _ h => h) (Or.inl ⟨by rfl, ?_⟩) (by assumption) ?_
  rotate_left
  · (intro w' hSw; (try dsimp only at hSw); go_simp) <;> with_reducible rfl
  change wpAnyH Tryz.prog _ _ _ _ _ _ (Act.put _ (some 4) _) _
  (try simp only [Act.put, List.setIfInBounds_toArray, List.set_cons_zero, List.set_cons_succ])
  refine wpAnyH_take (i := 2) (v := ?_) rfl (by kernel_rfl) (by kernel_rfl) (by kernel_rfl) (fun _ _ _ h => h) (Or.inl ⟨by rfl, ?_⟩) (by assumption) ?_
  rotate_left
  · (intro w' hSw; (try dsimp only at hSw); go_simp) <;> with_reducible rfl
  change wpAnyH Tryz.prog _ _ _ _ _ _ (Act.put _ (some 5) _) _
  (try simp only [Act.put, List.setIfInBounds_toArray, List.set_cons_zero, List.set_cons_succ])
  refine wpAnyH_take (i := 3) (v := ?_) rfl (by kernel_rfl) (by kernel_rfl) (by kernel_rfl) (fun _ _ _ h => h) (Or.inl ⟨by rfl, ?_⟩) (by assumption) ?_
  rotate_left
  · (intro w' hSw; (try dsimp only at hSw); go_simp) <;> with_reducible rfl
  change wpAnyH Tryz.prog _ _ _ _ _ _ (Act.put _ (some 6) _) _
  (try simp only [Act.put, List.setIfInBounds_toArray, List.set_cons_zero, List.set_cons_succ])
  refine wpAnyH_take (i := 4) (v := ?_) rfl (by kernel_rfl) (by kernel_rfl) (by kernel_rfl) (fun _ _ _ h => h) (Or.inl ⟨by rfl, ?_⟩) (by assumption) ?_
  rotate_left
  · (intro w' hSw; (try dsimp only at hSw); go_simp) <;> with_reducible rfl
  change wpAnyH Tryz.prog _ _ _ _ _ _ (Act.put _ (some 7) _) _
  (try simp only [Act.put, List.setIfInBounds_toArray, List.set_cons_zero, List.set_cons_succ])
  refine wpAnyH_take (i := 7) (v := ?_) rfl (by kernel_rfl) (by kernel_rfl) (by kernel_rfl) (fun _ _ _ h => h) (Or.inl ⟨by rfl, ?_⟩) (by assumption) ?_
  rotate_left
  · (intro w' hSw; (try dsimp only at hSw); go_simp) <;> with_reducible rfl
  change wpAnyH Tryz.prog _ _ _ _ _ _ (Act.put _ (some 10) _) _
  (try simp only [Act.put, List.setIfInBounds_toArray, List.set_cons_zero, List.set_cons_succ])
  refine wpAnyH_take (i := 8) (v := ?_) rfl (by kernel_rfl) (by kernel_rfl) (by kernel_rfl) (fun _ _ _ h => h) (Or.inl ⟨by rfl, ?_⟩) (by assumption) ?_
  rotate_left
  · (intro w' hSw; (try dsimp only at hSw); go_simp) <;> with_reducible rfl
  change wpAnyH Tryz.prog _ _ _ _ _ _ (Act.put _ (some 11) _) _
  (try simp only [Act.put, List.setIfInBounds_toArray, List.set_cons_zero, List.set_cons_succ])
  refine wpAnyH_take (i := 9) (v := ?_) rfl (by kernel_rfl) (by kernel_rfl) (by kernel_rfl) (fun _ _ _ h => h) (Or.inl ⟨by rfl, ?_⟩) (by assumption) ?_
  rotate_left
  · (intro w' hSw; (try dsimp only at hSw); go_simp) <;> with_reducible rfl
  change wpAnyH Tryz.prog _ _ _ _ _ _ (Act.put _ (some 12) _) _
  (try simp only [Act.put, List.setIfInBounds_toArray, List.set_cons_zero, List.set_cons_succ])
  refine wpAnyH_take (i := 10) (v := ?_) rfl (by kernel_rfl) (by kernel_rfl) (by kernel_rfl) (fun _ _ _ h => h) (Or.inl ⟨by rfl, ?_⟩) (by assumption) ?_
  rotate_left
  · (intro w' hSw; (try dsimp only at hSw); go_simp) <;> with_reducible rfl
  change wpAnyH Tryz.prog _ _ _ _ _ _ (Act.put _ (some 13) _) _
  (try simp only [Act.put, List.setIfInBounds_toArray, List.set_cons_zero, List.set_cons_succ])
  refine wpAnyH_ready (rs := [0, 6]) (by kernel_rfl) (by simp) ?_
  refine (AllReadyH.cons (i := 0) rfl (fun K hK => ?_) (AllReadyH.cons (i := 6) rfl (fun K hK => ?_) AllReadyH.nil))
  · go_simp
    obtain ⟨y1, hy1⟩ : ∃ z, z = y0.alloc (.cells #[] 9) := ⟨_, rfl⟩
    rw [← hy1]
    have ey1 : Ex y0 y1 := hy1 ▸ Ex.new _ _
    have xy1 : Ex W1 y1 := xy0.trans ey1
    have rNy1 : y1.ownsRow W1.heap.size 9 1 (.slice (some ⟨y0.heap.size, 0, none⟩) 0 0) 0 [] := hy1 ▸ own_none_texts _ xy0.size
    clear hy1
    refine hK.out _ _ ?_ (fun hHeld => ?_)
    · exact KS.out _ xy1
    clear hK
    (try simp only [Act.put, List.setIfInBounds_toArray, List.set_cons_zero, List.set_cons_succ])
    refine wpAnyH_ready (rs := [5, 6]) (by kernel_rfl) (by simp) ?_
    refine (AllReadyH.cons (i := 5) rfl (fun K hK => ?_) (AllReadyH.cons (i := 6) rfl (fun K hK => ?_) AllReadyH.nil))
    · refine step_of_wp rfl (wp_names (.tmp 3) (.tmp 7) rfl W1.heap.size xy1.size (.slice (some ⟨y0.heap.size, 0, none⟩) 0 0) [] rfl rNy1 ns na nc rfl (XA_below hXN xy1) h63 ?_)
      intro vN0 y2 g1 g2 g3
      rw [List.nil_append] at g1
      obtain ⟨na', nc', rfl, _⟩ := XS_own g1
      have xy2 : Ex W1 y2 := ex_grow xy1 g2 fun k hk => (rNy1.lt k hk).1
      refine hK.out _ _ ?_ (fun hHeld => ?_)
      · exact KS.out _ xy2
      clear hK
      (try simp only [Act.put, List.setIfInBounds_toArray, List.set_cons_zero, List.set_cons_succ])
      refine wpAnyH_ready (rs := [6]) (by kernel_rfl) (by simp) ?_
      refine (AllReadyH.cons (i := 6) rfl (fun K hK => ?_) AllReadyH.nil)
      go_simp
      obtain ⟨y3, hy3⟩ : ∃ z, z = y2.alloc (.cells #[] 55) := ⟨_, rfl⟩
      rw [← hy3]
      have ey3 : Ex y2 y3 := hy3 ▸ Ex.new _ _
      have xy3 : Ex W1 y3 := xy2.trans ey3
      have rVy3 : RT y3 W1.heap.size SV (.slice (some ⟨y2.heap.size, 0, none⟩) 0 0) .nil := hy3 ▸ RT.empty _ _ _ xy2.size
      have rNy3 := row_ex g1 ey3
      have dy3 : ∀ g, (Value.ownBlock (Value.slice na' ns.length nc')) = some g → (Value.slice (some ⟨y2.heap.size, 0, none⟩) 0 0).ownBlock ≠ some g := fun g hg hg' => by have := (g1.lt g hg).2; simp [Value.ownBlock] at hg'; omega
      clear hy3
      refine hK.out _ _ ?_ (fun hHeld => ?_)
      · exact KS.out _ xy3
      clear hK
      (try simp only [Act.put, List.setIfInBounds_toArray, List.set_cons_zero, List.set_cons_succ])
      refine wpAnyH_ready (rs := [11]) (by kernel_rfl) (by simp) ?_
      refine (AllReadyH.cons (i := 11) rfl (fun K hK => ?_) AllReadyH.nil)
      refine step_of_wp rfl (wp_types (.tmp 9) (.tmp 13) rfl W1.heap.size xy3.size (.slice (some ⟨y2.heap.size, 0, none⟩) 0 0) .nil SV rfl rVy3 (fun b hb e => by have := (RT.own rVy3 b e).1; have := hSV b hb; omega) tl ta tc TV rfl (TTop.ex hVV xy3) h63v ?_)
      intro vV0 y4 j1 j2 j3
      obtain ⟨ta', tc', rfl, _⟩ := RT.top j1
      have xy4 : Ex W1 y4 := ex_grow xy3 j2 fun k hk => (RT.own rVy3 k hk).1
      have rNy4 := row_fr rNy3 (w' := y4) fun g hg => j2.block g (rNy3.lt g hg).2 fun e => dy3 g hg e.symm
      have dy4 : ∀ g, (Value.slice na' ns.length nc').ownBlock = some g → (Value.slice ta' (len (catT .nil tl (len tl))) tc').ownBlock ≠ some g := fun g hg hg' => by
        rcases j3 with j3 | ⟨k, hk, hor, _⟩
        · exact dy3 g hg (j3 ▸ hg')
        · rw [hk] at hg'; cases hg'; rcases hor with h | h
          · exact dy3 _ hg h
          · have := (rNy3.lt _ hg).2; omega
      refine hK.out _ _ ?_ (fun hHeld => ?_)
      · exact KS.out _ xy4
      clear hK
      (try simp only [Act.put, List.setIfInBounds_toArray, List.set_cons_zero, List.set_cons_succ])
      refine wpAnyH_take (i := 12) (v := ?_) rfl (by kernel_rfl) (by kernel_rfl) (by kernel_rfl) (fun _ _ _ h => h) (Or.inl ⟨by rfl, ?_⟩) (by assumption) ?_
      rotate_left
      · (intro w' hSw; (try dsimp only at hSw); go_simp) <;> with_reducible rfl
      change wpAnyH Tryz.prog _ _ _ _ _ _ (Act.put _ (some 15) _) _
      (try simp only [Act.put, List.setIfInBounds_toArray, List.set_cons_zero, List.set_cons_succ])
      refine wpAnyH_ready (rs := [13]) (by kernel_rfl) (by simp) ?_
      refine (AllReadyH.cons (i := 13) rfl (fun K hK => ?_) AllReadyH.nil)
      go_simp
      obtain ⟨y5, hy5⟩ : ∃ z, z = y4.alloc (.cells #[(Value.slice na' ns.length nc'), (Value.slice ta' (len (catT .nil tl (len tl))) tc')] 64) := ⟨_, rfl⟩
      rw [← hy5]
      have xy5 : Ex W1 y5 := xy4.trans (hy5 ▸ Ex.new _ _)
      have Hy5 : Hid (y5 = y4.alloc (.cells #[(Value.slice na' ns.length nc'), (Value.slice ta' (len (catT .nil tl (len tl))) tc')] 64)) := hy5
      clear hy5
      refine hK.out _ _ ?_ (fun hHeld => ?_)
      · exact KS.out _ xy5
      clear hK
      (try simp only [Act.put, List.setIfInBounds_toArray, List.set_cons_zero, List.set_cons_succ])
      refine wpAnyH_take (i := 14) (v := ?_) rfl (by kernel_rfl) (by kernel_rfl) (by kernel_rfl) (fun _ _ _ h => h) (Or.inl ⟨by rfl, ?_⟩) (by assumption) ?_
      rotate_left
      · (intro w' hSw; (try dsimp only at hSw); go_simp) <;> with_reducible rfl
      change wpAnyH Tryz.prog _ _ _ _ _ _ (Act.put _ (some 2) _) _
      (try simp only [Act.put, List.setIfInBounds_toArray, List.set_cons_zero, List.set_cons_succ])
      refine wpAnyH_done (by kernel_rfl) ?_ _
      go_wp2_with fail
      refine bodyPost_ret (v := .pointer (some ⟨y4.heap.size, 0, none⟩)) (by simp [results, Tryz.results77, go_sem]) rfl ?_
      refine ⟨y4.heap.size, (Value.slice na' ns.length nc'), (Value.slice ta' (len (catT .nil tl (len tl))) tc'), rfl, ⟨?_, xy4.size, ?_, ?_, ?_, ?_, ?_⟩, xy5⟩
      · unfold ET; rw [Hy5.out]; exact heap_alloc_new _ _
      · exact row_ex rNy4 (Hy5.out ▸ Ex.new _ _)
      · refine ((RT.congr j1 tl (by rw [catT_len]; show 0 + len tl = _; omega) fun i hi => ?_).mono fun b hl hs => ?_).ex (Hy5.out ▸ Ex.new _ _)
        · have h := catT_at .nil tl (len tl) i (by rw [catT_len] at hi; exact hi)
          rw [if_neg (by show ¬ i < 0; omega)] at h
          exact h
        · have hb := hSV b hs.1
          refine ⟨fun h => ?_, fun h => ?_⟩
          · rcases h with h | h
            · exact (hSVo b hs.1).1 h
            · exact (hSVo b hs.1).2 h
          · rcases h with h | h | h
            · have := xy4.size; omega
            · have := (rNy4.lt b h).1; omega
            · exact hs.2 h
      · intro h; have := (rNy4.lt _ h).2; omega
      · intro h; have := (RT.own j1 _ h).2; omega
      · exact dy4
    · go_simp
      obtain ⟨y2, hy2⟩ : ∃ z, z = y1.alloc (.cells #[] 55) := ⟨_, rfl⟩
      rw [← hy2]
      have ey2 : Ex y1 y2 := hy2 ▸ Ex.new _ _
      have xy2 : Ex W1 y2 := xy1.trans ey2
      have rVy2 : RT y2 W1.heap.size SV (.slice (some ⟨y1.heap.size, 0, none⟩) 0 0) .nil := hy2 ▸ RT.empty _ _ _ xy1.size
      have rNy2 := row_ex rNy1 ey2
      have dy2 : ∀ g, (Value.ownBlock (.slice (some ⟨y0.heap.size, 0, none⟩) 0 0)) = some g → (Value.slice (some ⟨y1.heap.size, 0, none⟩) 0 0).ownBlock ≠ some g := fun g hg hg' => by have := (rNy1.lt g hg).2; simp [Value.ownBlock] at hg'; omega
      clear hy2
      refine hK.out _ _ ?_ (fun hHeld => ?_)
      · exact KS.out _ xy2
      clear hK
      (try simp only [Act.put, List.setIfInBounds_toArray, List.set_cons_zero, List.set_cons_succ])
      refine wpAnyH_ready (rs := [5]) (by kernel_rfl) (by simp) ?_
      refine (AllReadyH.cons (i := 5) rfl (fun K hK => ?_) AllReadyH.nil)
      refine step_of_wp rfl (wp_names (.tmp 3) (.tmp 7) rfl W1.heap.size xy2.size (.slice (some ⟨y0.heap.size, 0, none⟩) 0 0) [] rfl rNy2 ns na nc rfl (XA_below hXN xy2) h63 ?_)
      intro vN0 y3 g1 g2 g3
      rw [List.nil_append] at g1
      obtain ⟨na', nc', rfl, _⟩ := XS_own g1
      have xy3 : Ex W1 y3 := ex_grow xy2 g2 fun k hk => (rNy2.lt k hk).1
      have rVy3 := RT.keep rVy2 (fun g hg => g2.block g (RT.own rVy2 g hg).2 fun e => dy2 g e.symm hg) (fun b hl hs => g2.block b hl fun e => by have := (rNy2.lt b e.symm).1; have := hSV b hs; omega)
      have dy3 : ∀ g, (Value.slice na' ns.length nc').ownBlock = some g → (Value.slice (some ⟨y1.heap.size, 0, none⟩) 0 0).ownBlock ≠ some g := fun g hg hg' => by
        rcases g3 with g3 | ⟨k, hk, hor, _⟩
        · exact dy2 g (g3 ▸ hg) hg'
        · rw [hk] at hg; cases hg; rcases hor with h | h
          · exact dy2 _ h hg'
          · have := (RT.own rVy2 _ hg').2; omega
      refine hK.out _ _ ?_ (fun hHeld => ?_)
      · exact KS.out _ xy3
      clear hK
      (try simp only [Act.put, List.setIfInBounds_toArray, List.set_cons_zero, List.set_cons_succ])
      refine wpAnyH_ready (rs := [11]) (by kernel_rfl) (by simp) ?_
      refine (AllReadyH.cons (i := 11) rfl (fun K hK => ?_) AllReadyH.nil)
      refine step_of_wp rfl (wp_types (.tmp 9) (.tmp 13) rfl W1.heap.size xy3.size (.slice (some ⟨y1.heap.size, 0, none⟩) 0 0) .nil SV rfl rVy3 (fun b hb e => by have := (RT.own rVy3 b e).1; have := hSV b hb; omega) tl ta tc TV rfl (TTop.ex hVV xy3) h63v ?_)
      intro vV0 y4 j1 j2 j3
      obtain ⟨ta', tc', rfl, _⟩ := RT.top j1
      have xy4 : Ex W1 y4 := ex_grow xy3 j2 fun k hk => (RT.own rVy3 k hk).1
      have rNy4 := row_fr g1 (w' := y4) fun g hg => j2.block g (g1.lt g hg).2 fun e => dy3 g hg e.symm
      have dy4 : ∀ g, (Value.slice na' ns.length nc').ownBlock = some g → (Value.slice ta' (len (catT .nil tl (len tl))) tc').ownBlock ≠ some g := fun g hg hg' => by
        rcases j3 with j3 | ⟨k, hk, hor, _⟩
        · exact dy3 g hg (j3 ▸ hg')
        · rw [hk] at hg'; cases hg'; rcases hor with h | h
          · exact dy3 _ hg h
          · have := (g1.lt _ hg).2; omega
      refine hK.out _ _ ?_ (fun hHeld => ?_)
      · exact KS.out _ xy4
      clear hK
      (try simp only [Act.put, List.setIfInBounds_toArray, List.set_cons_zero, List.set_cons_succ])
      refine wpAnyH_take (i := 12) (v := ?_) rfl (by kernel_rfl) (by kernel_rfl) (by kernel_rfl) (fun _ _ _ h => h) (Or.inl ⟨by rfl, ?_⟩) (by assumption) ?_
      rotate_left
      · (intro w' hSw; (try dsimp only at hSw); go_simp) <;> with_reducible rfl
      change wpAnyH Tryz.prog _ _ _ _ _ _ (Act.put _ (some 15) _) _
      (try simp only [Act.put, List.setIfInBounds_toArray, List.set_cons_zero, List.set_cons_succ])
      refine wpAnyH_ready (rs := [13]) (by kernel_rfl) (by simp) ?_
      refine (AllReadyH.cons (i := 13) rfl (fun K hK => ?_) AllReadyH.nil)
      go_simp
      obtain ⟨y5, hy5⟩ : ∃ z, z = y4.alloc (.cells #[(Value.slice na' ns.length nc'), (Value.slice ta' (len (catT .nil tl (len tl))) tc')] 64) := ⟨_, rfl⟩
      rw [← hy5]
      have xy5 : Ex W1 y5 := xy4.trans (hy5 ▸ Ex.new _ _)
      have Hy5 : Hid (y5 = y4.alloc (.cells #[(Value.slice na' ns.length nc'), (Value.slice ta' (len (catT .nil tl (len tl))) tc')] 64)) := hy5
      clear hy5
      refine hK.out _ _ ?_ (fun hHeld => ?_)
      · exact KS.out _ xy5
      clear hK
      (try simp only [Act.put, List.setIfInBounds_toArray, List.set_cons_zero, List.set_cons_succ])
      refine wpAnyH_take (i := 14) (v := ?_) rfl (by kernel_rfl) (by kernel_rfl) (by kernel_rfl) (fun _ _ _ h => h) (Or.inl ⟨by rfl, ?_⟩) (by assumption) ?_
      rotate_left
      · (intro w' hSw; (try dsimp only at hSw); go_simp) <;> with_reducible rfl
      change wpAnyH Tryz.prog _ _ _ _ _ _ (Act.put _ (some 2) _) _
      (try simp only [Act.put, List.setIfInBounds_toArray, List.set_cons_zero, List.set_cons_succ])
      refine wpAnyH_done (by kernel_rfl) ?_ _
      go_wp2_with fail
      refine bodyPost_ret (v := .pointer (some ⟨y4.heap.size, 0, none⟩)) (by simp [results, Tryz.results77, go_sem]) rfl ?_
      refine ⟨y4.heap.size, (Value.slice na' ns.length nc'), (Value.slice ta' (len (catT .nil tl (len tl))) tc'), rfl, ⟨?_, xy4.size, ?_, ?_, ?_, ?_, ?_⟩, xy5⟩
      · unfold ET; rw [Hy5.out]; exact heap_alloc_new _ _
      · exact row_ex rNy4 (Hy5.out ▸ Ex.new _ _)
      · refine ((RT.congr j1 tl (by rw [catT_len]; show 0 + len tl = _; omega) fun i hi => ?_).mono fun b hl hs => ?_).ex (Hy5.out ▸ Ex.new _ _)
        · have h := catT_at .nil tl (len tl) i (by rw [catT_len] at hi; exact hi)
          rw [if_neg (by show ¬ i < 0; omega)] at h
          exact h
        · have hb := hSV b hs.1
          refine ⟨fun h => ?_, fun h => ?_⟩
          · rcases h with h | h
            · exact (hSVo b hs.1).1 h
            · exact (hSVo b hs.1).2 h
          · rcases h with h | h | h
            · have := xy4.size; omega
            · have := (rNy4.lt b h).1; omega
            · exact hs.2 h
      · intro h; have := (rNy4.lt _ h).2; omega
      · intro h; have := (RT.own j1 _ h).2; omega
      · exact dy4
  · go_simp
    obtain ⟨y1, hy1⟩ : ∃ z, z = y0.alloc (.cells #[] 55) := ⟨_, rfl⟩
    rw [← hy1]
    have ey1 : Ex y0 y1 := hy1 ▸ Ex.new _ _
    have xy1 : Ex W1 y1 := xy0.trans ey1
    have rVy1 : RT y1 W1.heap.size SV (.slice (some ⟨y0.heap.size, 0, none⟩) 0 0) .nil := hy1 ▸ RT.empty _ _ _ xy0.size
    clear hy1
    refine hK.out _ _ ?_ (fun hHeld => ?_)
    · exact KS.out _ xy1
    clear hK
    (try simp only [Act.put, List.setIfInBounds_toArray, List.set_cons_zero, List.set_cons_succ])
    refine wpAnyH_ready (rs := [0]) (by kernel_rfl) (by simp) ?_
    refine (AllReadyH.cons (i := 0) rfl (fun K hK => ?_) AllReadyH.nil)
    go_simp
    obtain ⟨y2, hy2⟩ : ∃ z, z = y1.alloc (.cells #[] 9) := ⟨_, rfl⟩
    rw [← hy2]
    have ey2 : Ex y1 y2 := hy2 ▸ Ex.new _ _
    have xy2 : Ex W1 y2 := xy1.trans ey2
    have rNy2 : y2.ownsRow W1.heap.size 9 1 (.slice (some ⟨y1.heap.size, 0, none⟩) 0 0) 0 [] := hy2 ▸ own_none_texts _ xy1.size
    have rVy2 := RT.ex rVy1 ey2
    have dy2 : ∀ g, (Value.slice (some ⟨y1.heap.size, 0, none⟩) 0 0).ownBlock = some g → (Value.slice (some ⟨y0.heap.size, 0, none⟩) 0 0).ownBlock ≠ some g := fun g hg hg' => by have := RT.own rVy1 g hg'; simp [Value.ownBlock] at hg; omega
    clear hy2
    refine hK.out _ _ ?_ (fun hHeld => ?_)
    · exact KS.out _ xy2
    clear hK
    (try simp only [Act.put, List.setIfInBounds_toArray, List.set_cons_zero, List.set_cons_succ])
    refine wpAnyH_ready (rs := [5]) (by kernel_rfl) (by simp) ?_
    refine (AllReadyH.cons (i := 5) rfl (fun K hK => ?_) AllReadyH.nil)
    refine step_of_wp rfl (wp_names (.tmp 3) (.tmp 7) rfl W1.heap.size xy2.size (.slice (some ⟨y1.heap.size, 0, none⟩) 0 0) [] rfl rNy2 ns na nc rfl (XA_below hXN xy2) h63 ?_)
    intro vN0 y3 g1 g2 g3
    rw [List.nil_append] at g1
    obtain ⟨na', nc', rfl, _⟩ := XS_own g1
    have xy3 : Ex W1 y3 := ex_grow xy2 g2 fun k hk => (rNy2.lt k hk).1
    have rVy3 := RT.keep rVy2 (fun g hg => g2.block g (RT.own rVy2 g hg).2 fun e => dy2 g e.symm hg) (fun b hl hs => g2.block b hl fun e => by have := (rNy2.lt b e.symm).1; have := hSV b hs; omega)
    have dy3 : ∀ g, (Value.slice na' ns.length nc').ownBlock = some g → (Value.slice (some ⟨y0.heap.size, 0, none⟩) 0 0).ownBlock ≠ some g := fun g hg hg' => by
      rcases g3 with g3 | ⟨k, hk, hor, _⟩
      · exact dy2 g (g3 ▸ hg) hg'
      · rw [hk] at hg; cases hg; rcases hor with h | h
        · exact dy2 _ h hg'
        · have := (RT.own rVy2 _ hg').2; omega
    refine hK.out _ _ ?_ (fun hHeld => ?_)
    · exact KS.out _ xy3
    clear hK
    (try simp only [Act.put, List.setIfInBounds_toArray, List.set_cons_zero, List.set_cons_succ])
    refine wpAnyH_ready (rs := [11]) (by kernel_rfl) (by simp) ?_
    refine (AllReadyH.cons (i := 11) rfl (fun K hK => ?_) AllReadyH.nil)
    refine step_of_wp rfl (wp_types (.tmp 9) (.tmp 13) rfl W1.heap.size xy3.size (.slice (some ⟨y0.heap.size, 0, none⟩) 0 0) .nil SV rfl rVy3 (fun b hb e => by have := (RT.own rVy3 b e).1; have := hSV b hb; omega) tl ta tc TV rfl (TTop.ex hVV xy3) h63v ?_)
    intro vV0 y4 j1 j2 j3
    obtain ⟨ta', tc', rfl, _⟩ := RT.top j1
    have xy4 : Ex W1 y4 := ex_grow xy3 j2 fun k hk => (RT.own rVy3 k hk).1
    have rNy4 := row_fr g1 (w' := y4) fun g hg => j2.block g (g1.lt g hg).2 fun e => dy3 g hg e.symm
    have dy4 : ∀ g, (Value.slice na' ns.length nc').ownBlock = some g → (Value.slice ta' (len (catT .nil tl (len tl))) tc').ownBlock ≠ some g := fun g hg hg' => by
      rcases j3 with j3 | ⟨k, hk, hor, _⟩
      · exact dy3 g hg (j3 ▸ hg')
      · rw [hk] at hg'; cases hg'; rcases hor with h | h
        · exact dy3 _ hg h
        · have := (g1.lt _ hg).2; omega
    refine hK.out _ _ ?_ (fun hHeld => ?_)
    · exact KS.out _ xy4
    clear hK
    (try simp only [Act.put, List.setIfInBounds_toArray, List.set_cons_zero, List.set_cons_succ])
    refine wpAnyH_take (i := 12) (v := ?_) rfl (by kernel_rfl) (by kernel_rfl) (by kernel_rfl) (fun _ _ _ h => h) (Or.inl ⟨by rfl, ?_⟩) (by assumption) ?_
    rotate_left
    · (intro w' hSw; (try dsimp only at hSw); go_simp) <;> with_reducible rfl
    change wpAnyH Tryz.prog _ _ _ _ _ _ (Act.put _ (some 15) _) _
    (try simp only [Act.put, List.setIfInBounds_toArray, List.set_cons_zero, List.set_cons_succ])
    refine wpAnyH_ready (rs := [13]) (by kernel_rfl) (by simp) ?_
    refine (AllReadyH.cons (i := 13) rfl (fun K hK => ?_) AllReadyH.nil)
    go_simp
    obtain ⟨y5, hy5⟩ : ∃ z, z = y4.alloc (.cells #[(Value.slice na' ns.length nc'), (Value.slice ta' (len (catT .nil tl (len tl))) tc')] 64) := ⟨_, rfl⟩
    rw [← hy5]
    have xy5 : Ex W1 y5 := xy4.trans (hy5 ▸ Ex.new _ _)
    have Hy5 : Hid (y5 = y4.alloc (.cells #[(Value.slice na' ns.length nc'), (Value.slice ta' (len (catT .nil tl (len tl))) tc')] 64)) := hy5
    clear hy5
    refine hK.out _ _ ?_ (fun hHeld => ?_)
    · exact KS.out _ xy5
    clear hK
    (try simp only [Act.put, List.setIfInBounds_toArray, List.set_cons_zero, List.set_cons_succ])
    refine wpAnyH_take (i := 14) (v := ?_) rfl (by kernel_rfl) (by kernel_rfl) (by kernel_rfl) (fun _ _ _ h => h) (Or.inl ⟨by rfl, ?_⟩) (by assumption) ?_
    rotate_left
    · (intro w' hSw; (try dsimp only at hSw); go_simp) <;> with_reducible rfl
    change wpAnyH Tryz.prog _ _ _ _ _ _ (Act.put _ (some 2) _) _
    (try simp only [Act.put, List.setIfInBounds_toArray, List.set_cons_zero, List.set_cons_succ])
    refine wpAnyH_done (by kernel_rfl) ?_ _
    go_wp2_with fail
    refine bodyPost_ret (v := .pointer (some ⟨y4.heap.size, 0, none⟩)) (by simp [results, Tryz.results77, go_sem]) rfl ?_
    refine ⟨y4.heap.size, (Value.slice na' ns.length nc'), (Value.slice ta' (len (catT .nil tl (len tl))) tc'), rfl, ⟨?_, xy4.size, ?_, ?_, ?_, ?_, ?_⟩, xy5⟩
    · unfold ET; rw [Hy5.out]; exact heap_alloc_new _ _
    · exact row_ex rNy4 (Hy5.out ▸ Ex.new _ _)
    · refine ((RT.congr j1 tl (by rw [catT_len]; show 0 + len tl = _; omega) fun i hi => ?_).mono fun b hl hs => ?_).ex (Hy5.out ▸ Ex.new _ _)
      · have h := catT_at .nil tl (len tl) i (by rw [catT_len] at hi; exact hi)
        rw [if_neg (by show ¬ i < 0; omega)] at h
        exact h
      · have hb := hSV b hs.1
        refine ⟨fun h => ?_, fun h => ?_⟩
        · rcases h with h | h
          · exact (hSVo b hs.1).1 h
          · exact (hSVo b hs.1).2 h
        · rcases h with h | h | h
          · have := xy4.size; omega
          · have := (rNy4.lt b h).1; omega
          · exact hs.2 h
    · intro h; have := (rNy4.lt _ h).2; omega
    · intro h; have := (RT.own j1 _ h).2; omega
    · exact dy4

end Go.Proofs.YtgpdnoghlommeaaGreatDoor

namespace Go.Proofs.YtgpdnoghlommeaaGreatDoor

open Go.RowKit Go.Deep

set_option maxRecDepth 100000 in
set_option maxHeartbeats 2000000 in
theorem toType_both : ∀ (d : Nat), (∀ (f : F) (a : Option Addr) (c lo : Nat) (w : World), dep f < d → len f ≤ 1000000000 → Sm f → TA w lo f a →
      Calls Tryz.prog 9 #[.slice a (len f) c] w fun e w' => ∃ a' c', e = .returned (.slice a' (len f) c') ∧ TA w' w.heap.size f a' ∧ Ex w w') ∧
    (∀ (f : F) (a : Option Addr) (c lo : Nat) (w : World), dep f < d → len f ≤ 1000000000 → Sm f → TA w lo f a →
      Calls Tryz.prog 27 #[.agg #[.slice a (len f) c]] w fun e w' => ∃ a' c', e = .returned (.agg #[.slice a' (len f) c']) ∧ TA w' w.heap.size f a' ∧ Ex w w') := by
  intro d
  induction d with
  | zero => exact ⟨fun f a c lo w hd => by omega, fun f a c lo w hd => by omega⟩
  | succ d ih =>
    have hS : ∀ (f : F) (a : Option Addr) (c lo : Nat) (w : World), dep f < d + 1 → len f ≤ 1000000000 → Sm f → TA w lo f a →
      Calls Tryz.prog 9 #[.slice a (len f) c] w fun e w' => ∃ a' c', e = .returned (.slice a' (len f) c') ∧ TA w' w.heap.size f a' ∧ Ex w w' := by
      intro f a c lo w hd hl hs hT
      have T : Hid (TA w lo f a) := hT
      have I : Hid _ := ih.2
      have SS : Hid (Sm f) := hs
      clear hT ih hs
      obtain ⟨i0, hi, hz0, hz1, hz2⟩ := info_parts Tryz.info55
      have hmk : ∀ w : World, (Instr.makeSlice 26 (.int .i64 (len f : Int)) (.int .i64 (len f : Int))).run Tryz.prog w = .ok (.slice (some ⟨w.heap.size, 0, none⟩) (len f) (len f)) (w.alloc (.cells (madeCells #[.slice none 0 0] (len f)) 55)) := fun w => by
        have := run_make (P := Tryz.prog) w 26 55 i0 _ Tryz.underlying26 hi hz0 .i64 .i64 (len f : Int) (len f : Int) (by omega) (by omega) (by rw [hz2]; omega) (by omega)
        rw [hz1] at this
        simpa [Value.cells] using this
      clear hz0 hz1 hz2 hi
      go_enter Tryz.func9, Tryz.ntmps9
      go_wp2_with fail
      go_loopw [4] (fun i wr => ∃ (k : Nat) (cur : Array Value), k ≤ len f ∧ i = .int .i64 k ∧ Ex w wr ∧ wr.heap[w.heap.size]? = some (.cells cur 55 (0, 0)) ∧ cur.size = len f ∧ (∀ j, j < k → ∃ a' c', cur[j]? = some (.slice a' (len (kid f j)) c') ∧ SA wr (fun b => w.heap.size < b) (kid f j) a')) (fun i _ => len f - (intOf i).toNat)
      case atStart => exact ⟨0, madeCells #[.slice none 0 0] (len f), Nat.zero_le _, rfl, Ex.new _ _, heap_alloc_new _ _, size_madeCells _ _, fun j hj => by omega⟩
      case round =>
        obtain ⟨k, cur, hk, rfl, hx, hob, hcs, hkids⟩ := hrel
        have KI : Hid _ := hkids
        have HCS : Hid (cur.size = len f) := hcs
        clear hkids hcs
        by_cases hlt : k < len f
        · obtain ⟨b, o, rfl, hlo, hbs, hkk⟩ := TA_at (TA_below T.out hx) (by omega)
          obtain ⟨a1, k1, hc1, ht1⟩ := hkk k hlt
          have T1 : Hid (TA wr lo (kid f k) a1) := ht1
          clear hkk ht1
          go_wp2_with fail
          refine (I.out (kid f k) a1 k1 lo _ (by have := dep_kid f k hlt; omega) (Sm_kid SS.out k hlt).1 (Sm_kid SS.out k hlt).2 T1.out).mono ?_
          rintro e w1 ⟨a2, k2, rfl, ht2, hb1⟩
          have hob1 := hb1.blk hob
          have cc : w1.cell? ⟨w.heap.size, k, none⟩ = some (cur[k]'(by have := HCS.out; omega)) := by simp [World.cell?, hob1]
          have cf : w1.frozen? ⟨w.heap.size, k, none⟩ = false := by simp [World.frozen?, hob1]
          have T2 : Hid (TA w1 wr.heap.size (kid f k) a2) := ht2
          have zr : w.heap.size < wr.heap.size := lt_of_block hob
          clear ht2
          go_wp2_with fail
          go_roundw
          case rel =>
            refine ⟨k + 1, cur.setIfInBounds k (.slice a2 (len (kid f k)) k2), by omega, by go_num, (hx.trans hb1).set (Nat.le_refl _) _, ?_, by simp [HCS.out], fun j hj => ?_⟩
            · simp [World.setCell, Array.getElem?_modify, hob1]
            · have hks : Ks (fun b => w.heap.size < b) w1 (w1.setCell ⟨w.heap.size, k, none⟩ (.slice a2 (len (kid f k)) k2)) := fun b hb _ => Below.heap_setCell _ _ _ _ (by show b ≠ w.heap.size; omega)
              by_cases hj' : j < k
              · obtain ⟨a3, k3, h3, h4⟩ := KI.out j hj'
                exact ⟨a3, k3, by rw [Array.getElem?_setIfInBounds_ne (by omega)]; exact h3, SA_ks (SA_ks h4 fun b _ hlt => hb1.block b hlt) hks⟩
              · have e : j = k := by omega
                subst e
                exact ⟨a2, k2, by rw [Array.getElem?_setIfInBounds_self]; simp [HCS.out, hlt], SA_ks (SA_mono T2.out fun b _ hb => by omega) hks⟩
          case measure => simp [intOf]; omega
        · go_wp2_with fail
          go_ret
          refine ⟨_, _, rfl, ?_, hx⟩
          refine SA_mk (Nat.le_refl _) fun i hi => ?_
          obtain ⟨a3, k3, h3, h4⟩ := KI.out i (by omega)
          exact ⟨a3, k3, by simp [World.cell?, hob, h3], SA_mono h4 fun b _ hb => Nat.le_of_lt hb⟩
    refine ⟨hS, ?_⟩
    intro f a c lo w hd hl hs hT
    have HS : Hid _ := hS
    clear hS ih
    go_enter Tryz.func27, Tryz.ntmps27
    go_wp2_with fail
    refine (HS.out f a c lo _ hd hl hs (TA_below hT (((Ex.new _ _).alloc _).alloc _))).mono ?_
    rintro e w1 ⟨a1, k1, rfl, ht1, hb1⟩
    have hx1 : Ex w w1 := (((Ex.new _ _).alloc _).alloc _).trans hb1
    have b1 : w1.heap[w.heap.size + 1]? = some (.cells #[.slice none 0 0] 55 (0, 0)) := hb1.blk ((Ex.new _ _).blk (heap_alloc_at _ _ (by simp)))
    have b2 : w1.heap[w.heap.size + 2]? = some (.cells #[.slice none 0 0] 55 (0, 0)) := hb1.blk (heap_alloc_at _ _ (by simp))
    have c1 := cell_of_one b1
    have c2 := free_of_one b1
    have c3 := cell_of_one b2
    have c4 := free_of_one b2
    have T1 : Hid _ := ht1
    clear ht1
    go_wp2_with fail
    have c6 : (w1.setCell ⟨w.heap.size + 1 + 1, 0, none⟩ (.slice a1 (len f) k1)).cell? ⟨w.heap.size + 1, 0, none⟩ = some (.slice none 0 0) := by
      rw [World.cell?_setCell_other _ _ _ _ (fun e => absurd (congrArg Addr.block e) (by show w.heap.size + 1 + 1 ≠ w.heap.size + 1; omega))]; exact c1
    have hres := World.cell?_setCell_same (w1.setCell ⟨w.heap.size + 1 + 1, 0, none⟩ (.slice a1 (len f) k1)) ⟨w.heap.size + 1, 0, none⟩ (.slice a1 (len f) k1) c6
    refine bodyPost_ret (v := .agg #[.slice a1 (len f) k1]) (by simp [results, Tryz.results27, go_sem, hres]) rfl ⟨a1, k1, rfl, TA_lo (TA_kp T1.out (((Kp.refl _ _).set (Or.inl ?_) _).set (Or.inl ?_) _)) ?_, (hx1.set ?_ _).set ?_ _⟩
    · simp
    · simp
    · simp; omega
    · show w.heap.size ≤ w.heap.size + 1 + 1; omega
    · show w.heap.size ≤ w.heap.size + 1; omega

end Go.Proofs.YtgpdnoghlommeaaGreatDoor

namespace Go.Proofs.YtgpdnoghlommeaaGreatDoor

open Go.RowKit Go.Deep

attribute [local go_sem ↓] Go.wp_at_zero Go.wp_at_succ

/-- A block holds numbers, and nothing else. -/
def IB (w : World) (b : Nat) (xs : List Int) : Prop := ∃ cur : Array Value, w.heap[b]? = some (.cells cur 3 (0, 0)) ∧ cur.size = xs.length ∧ ∀ i, i < xs.length → cur[i]? = some (.int .i64 (xs.getD i 0))
theorem IB.pa {w : World} {b lo : Nat} {xs : List Int} (h : IB w b xs) (hl : lo ≤ b) : PA w lo xs (some ⟨b, 0, none⟩) := by
  obtain ⟨cur, h1, h2, h3⟩ := h
  refine Or.inr ⟨b, 0, rfl, hl, fun i hi => ?_⟩
  simp [World.cell?, h1, h3 i hi]
theorem IB.ex {w w' : World} {b : Nat} {xs : List Int} (h : IB w b xs) (hx : Ex w w') : IB w' b xs := by
  obtain ⟨cur, h1, h2⟩ := h
  exact ⟨cur, hx.blk h1, h2⟩
theorem IB.lt {w : World} {b : Nat} {xs : List Int} (h : IB w b xs) : b < w.heap.size := by
  obtain ⟨cur, h1, _⟩ := h
  exact lt_of_block h1

set_option maxRecDepth 100000 in
set_option maxHeartbeats 2000000 in
theorem toIntS_any (xs : List Int) (a : Option Addr) (c lo : Nat) (w : World) (hl : xs.length ≤ 1000000000) (hP : PA w lo xs a) :
    Calls Tryz.prog 133 #[.slice a xs.length c] w fun e w' => e = .returned (.slice (some ⟨w.heap.size, 0, none⟩) xs.length xs.length) ∧ IB w' w.heap.size xs ∧ Ex w w' := by
  have P : Hid (PA w lo xs a) := hP
  clear hP
  obtain ⟨i0, hi, hz0, hz1, hz2⟩ := info_parts Tryz.info3
  have hmk : ∀ w : World, (Instr.makeSlice 88 (.int .i64 (xs.length : Int)) (.int .i64 (xs.length : Int))).run Tryz.prog w = .ok (.slice (some ⟨w.heap.size, 0, none⟩) xs.length xs.length) (w.alloc (.cells (madeCells #[.int .i64 0] xs.length) 3)) := fun w => by
    have := run_make (P := Tryz.prog) w 88 3 i0 _ Tryz.underlying88 hi hz0 .i64 .i64 (xs.length : Int) (xs.length : Int) (by omega) (by omega) (by rw [hz2]; omega) (by omega)
    rw [hz1] at this
    simpa [Value.cells] using this
  clear hz0 hz1 hz2 hi
  go_enter Tryz.func133, Tryz.ntmps133
  go_wp2_with fail
  go_loopw [4] (fun i wr => ∃ (k : Nat) (cur : Array Value), k ≤ xs.length ∧ i = .int .i64 k ∧ Ex w wr ∧ wr.heap[w.heap.size]? = some (.cells cur 3 (0, 0)) ∧ cur.size = xs.length ∧ (∀ j, j < k → cur[j]? = some (.int .i64 (xs.getD j 0)))) (fun i _ => xs.length - (intOf i).toNat)
  case atStart => exact ⟨0, madeCells #[.int .i64 0] xs.length, Nat.zero_le _, rfl, Ex.new _ _, heap_alloc_new _ _, size_madeCells _ _, fun j hj => by omega⟩
  case round =>
    obtain ⟨k, cur, hk, rfl, hx, hob, hcs, hkids⟩ := hrel
    have KI : Hid _ := hkids
    have HCS : Hid (cur.size = xs.length) := hcs
    clear hkids hcs
    by_cases hlt : k < xs.length
    · obtain ⟨b, o, rfl, hlo, hbs, hkk⟩ := PA_at (PA_below P.out hx) (by omega)
      have hc1 := hkk k hlt
      clear hkk
      have cc : wr.cell? ⟨w.heap.size, k, none⟩ = some (cur[k]'(by have := HCS.out; omega)) := by simp [World.cell?, hob]
      have cf : wr.frozen? ⟨w.heap.size, k, none⟩ = false := by simp [World.frozen?, hob]
      go_wp2_with fail
      go_roundw
      case rel =>
        refine ⟨k + 1, cur.setIfInBounds k (.int .i64 (xs.getD k 0)), by omega, by go_num, hx.set (Nat.le_refl _) _, ?_, by simp [HCS.out], fun j hj => ?_⟩
        · simp [World.setCell, Array.getElem?_modify, hob, hlt]
        · by_cases hj' : j < k
          · rw [Array.getElem?_setIfInBounds_ne (by omega)]; exact KI.out j hj'
          · have e : j = k := by omega
            subst e
            rw [Array.getElem?_setIfInBounds_self]; simp [HCS.out, hlt]
      case measure => simp [intOf]; omega
    · go_wp2_with fail
      go_ret
      exact ⟨rfl, ⟨cur, hob, HCS.out, fun i hi => KI.out i (by omega)⟩, hx⟩

set_option maxRecDepth 100000 in
set_option maxHeartbeats 2000000 in
theorem eqIntS_same (xs : List Int) (a a' : Option Addr) (c c' : Nat) (w : World) (hl : xs.length ≤ 1000000000) (hP : PA w 0 xs a) (hP' : PA w 0 xs a') :
    Calls Tryz.prog 142 #[.slice a xs.length c, .slice a' xs.length c'] w fun e w' => e = .returned (.bool true) ∧ Ex w w' := by
  have P : Hid (PA w 0 xs a) := hP
  have P' : Hid (PA w 0 xs a') := hP'
  clear hP hP'
  go_enter Tryz.func142, Tryz.ntmps142
  go_wp2_with fail
  go_loopw [5] (fun i wr => ∃ (k : Nat), k ≤ xs.length ∧ i = .int .i64 k ∧ Ex w wr) (fun i _ => xs.length - (intOf i).toNat)
  case atStart => exact ⟨0, Nat.zero_le _, rfl, Ex.refl _⟩
  case round =>
    obtain ⟨k, hk, rfl, hx⟩ := hrel
    by_cases hlt : k < xs.length
    · obtain ⟨b, o, rfl, hlo, hbs, hkk⟩ := PA_at (PA_below P.out hx) (by omega)
      obtain ⟨b', o', rfl, hlo', hbs', hkk'⟩ := PA_at (PA_below P'.out hx) (by omega)
      have hc1 := hkk k hlt
      have hc2 := hkk' k hlt
      clear hkk hkk'
      have i1 : (0 : Int) ≤ (k : Int) := by omega
      have i2 : (k : Int) < (xs.length : Int) := by omega
      go_wp2_with fail
      go_quiet (fail)
      go_wp2_with fail
      go_roundw
      case rel => exact ⟨k + 1, by omega, by go_num, (hx.drewN _)⟩
      case measure => simp [intOf]; omega
    · go_wp2_with fail
      go_ret
      exact ⟨rfl, hx⟩

set_option maxRecDepth 100000 in
set_option maxHeartbeats 2000000 in
theorem markIntS_any (n c b : Nat) (k0 : Nat) (cur0 : Array Value) (w : World) (hn : n ≤ 1000000000) (hk0 : k0 ≤ 1000000000) (hb : w.heap[b]? = some (.cells cur0 3 (0, 0))) (hc : cur0.size = n) :
    Calls Tryz.prog 64 #[.slice (some ⟨b, 0, none⟩) n c, .int .i64 k0] w fun e w' => e = .returned (.int .i64 ((k0 + n : Nat) : Int)) ∧ Fr b w w' := by
  have B : Hid _ := hb
  clear hb
  go_enter Tryz.func64, Tryz.ntmps64
  go_wp2_with fail
  go_loopw [1, 5] (fun kv i wr => ∃ (k : Nat) (cur : Array Value), k ≤ n ∧ i = .int .i64 k ∧ kv = .int .i64 ((k0 + k : Nat) : Int) ∧ Fr b w wr ∧ wr.heap[b]? = some (.cells cur 3 (0, 0)) ∧ cur.size = n) (fun _ i _ => n - (intOf i).toNat)
  case atStart => exact ⟨0, cur0, Nat.zero_le _, rfl, rfl, Fr.refl _ _, B.out, hc⟩
  case round =>
    obtain ⟨k, cur, hk, rfl, rfl, hx, hob, hcs⟩ := hrel
    have HCS : Hid (cur.size = n) := hcs
    clear hcs
    by_cases hlt : k < n
    · have cc : wr.cell? ⟨b, k, none⟩ = some (cur[k]'(by have := HCS.out; omega)) := by simp [World.cell?, hob]
      have cf : wr.frozen? ⟨b, k, none⟩ = false := by simp [World.frozen?, hob]
      go_wp2_with fail
      go_roundw
      case rel =>
        refine ⟨k + 1, cur.setIfInBounds k (.int .i64 ((k0 : Int) + (k : Int))), by omega, by go_num, by go_num, hx.set (Or.inl rfl) _, ?_, by simp [HCS.out]⟩
        simp [World.setCell, Array.getElem?_modify, hob]
      case measure => simp [intOf]; omega
    · have e : k = n := by omega
      have E : Hid (k = n) := e
      clear e
      go_wp2_with fail
      go_ret
      exact ⟨by rw [E.out]; rfl, hx⟩

set_option maxRecDepth 100000 in
set_option maxHeartbeats 2000000 in
theorem markTypeS_any : ∀ (d : Nat) (f : F) (a : Option Addr) (c lo : Nat) (l : Int) (w : World), dep f < d → len f ≤ 1000000000 → Sm f → TA w lo f a →
      Calls Tryz.prog 14 #[.slice a (len f) c, .int .i64 l] w fun e w' => e = .returned (.int .i64 l) ∧ Ex w w' := by
  intro d
  induction d with
  | zero => exact fun f a c lo l w hd => by omega
  | succ d ih =>
    intro f a c lo l w hd hlen hs hT
    have T : Hid (TA w lo f a) := hT
    have I : Hid _ := ih
    have SS : Hid (Sm f) := hs
    clear hT hs ih
    go_enter Tryz.func14, Tryz.ntmps14
    go_wp2_with fail
    go_loopw [1, 5] (fun lv i wr => ∃ (k : Nat), k ≤ len f ∧ i = .int .i64 k ∧ lv = .int .i64 l ∧ Ex w wr) (fun _ i _ => len f - (intOf i).toNat)
    case atStart => exact ⟨0, Nat.zero_le _, rfl, rfl, Ex.refl _⟩
    case round =>
      obtain ⟨k, hk, rfl, rfl, hx⟩ := hrel
      by_cases hlt : k < len f
      · obtain ⟨b, o, rfl, hlo, hbs, hkk⟩ := TA_at (TA_below T.out hx) (by omega)
        obtain ⟨a1, k1, hc1, ht1⟩ := hkk k hlt
        have T1 : Hid (TA wr lo (kid f k) a1) := ht1
        clear hkk ht1
        go_wp2_with fail
        refine (I.out (kid f k) a1 k1 lo l _ (by have := dep_kid f k hlt; omega) (Sm_kid SS.out k hlt).1 (Sm_kid SS.out k hlt).2 T1.out).mono ?_
        rintro e w1 ⟨rfl, hb1⟩
        go_wp2_with fail
        go_roundw
        case rel => exact ⟨k + 1, by omega, by go_num, rfl, hx.trans hb1⟩
        case measure => simp [intOf]; omega
      · go_wp2_with fail
        go_ret
        exact ⟨rfl, hx⟩

set_option maxRecDepth 100000 in
set_option maxHeartbeats 2000000 in
theorem heldTypeS_any : ∀ (d : Nat) (f : F) (a : Option Addr) (c lo : Nat) (l : Int) (w : World), dep f < d → len f ≤ 1000000000 → Sm f → 0 ≤ l → TA w lo f a →
      Calls Tryz.prog 15 #[.slice a (len f) c, .int .i64 l] w fun e w' => e = .returned (.int .i64 l) ∧ Ex w w' := by
  intro d
  induction d with
  | zero => exact fun f a c lo l w hd => by omega
  | succ d ih =>
    intro f a c lo l w hd hlen hs hl0 hT
    have T : Hid (TA w lo f a) := hT
    have I : Hid _ := ih
    have SS : Hid (Sm f) := hs
    have dl : decide (l < 0) = false := by simp; omega
    clear hT hs ih
    go_enter Tryz.func15, Tryz.ntmps15
    go_wp2_with fail
    go_loopw [1, 5] (fun lv i wr => ∃ (k : Nat), k ≤ len f ∧ i = .int .i64 k ∧ lv = .int .i64 l ∧ Ex w wr) (fun _ i _ => len f - (intOf i).toNat)
    case atStart => exact ⟨0, Nat.zero_le _, rfl, rfl, Ex.refl _⟩
    case round =>
      obtain ⟨k, hk, rfl, rfl, hx⟩ := hrel
      by_cases hlt : k < len f
      · obtain ⟨b, o, rfl, hlo, hbs, hkk⟩ := TA_at (TA_below T.out hx) (by omega)
        obtain ⟨a1, k1, hc1, ht1⟩ := hkk k hlt
        have T1 : Hid (TA wr lo (kid f k) a1) := ht1
        clear hkk ht1
        go_wp2_with fail
        refine (I.out (kid f k) a1 k1 lo l _ (by have := dep_kid f k hlt; omega) (Sm_kid SS.out k hlt).1 (Sm_kid SS.out k hlt).2 hl0 T1.out).mono ?_
        rintro e w1 ⟨rfl, hb1⟩
        go_wp2_with fail
        go_roundw
        case rel => exact ⟨k + 1, by omega, by go_num, rfl, hx.trans hb1⟩
        case measure => simp [intOf]; omega
      · go_wp2_with fail
        go_ret
        exact ⟨rfl, hx⟩

end Go.Proofs.YtgpdnoghlommeaaGreatDoor

namespace Go.Proofs.YtgpdnoghlommeaaGreatDoor

open Go.RowKit Go.Deep

attribute [local go_sem ↓] Go.wp_at_zero Go.wp_at_succ

/-- Values set in a row of cells. -/
def setL (w : World) (b : Nat) : Nat → List Value → World
  | _, [] => w
  | o, v :: r => setL (w.setCell ⟨b, o, none⟩ v) b (o + 1) r
def setA (cur : Array Value) : Nat → List Value → Array Value
  | _, [] => cur
  | o, v :: r => setA (cur.setIfInBounds o v) (o + 1) r
theorem setA_size : ∀ (vs : List Value) (cur : Array Value) (o : Nat), (setA cur o vs).size = cur.size
  | [], _, _ => rfl
  | v :: r, cur, o => by rw [setA, setA_size r]; simp
theorem setA_out : ∀ (vs : List Value) (cur : Array Value) (o i : Nat), i < o ∨ o + vs.length ≤ i → (setA cur o vs)[i]? = cur[i]?
  | [], _, _, _, _ => rfl
  | v :: r, cur, o, i, h => by
    simp only [List.length_cons] at h
    rw [setA, setA_out r _ _ _ (by omega), Array.getElem?_setIfInBounds_ne (by omega)]
theorem setA_in : ∀ (vs : List Value) (cur : Array Value) (o i : Nat) (v : Value), vs[i]? = some v → o + i < cur.size → (setA cur o vs)[o + i]? = some v
  | [], _, _, _, _, h, _ => by simp at h
  | u :: r, cur, o, 0, v, h, hs => by
    simp only [List.getElem?_cons_zero, Option.some.injEq] at h
    subst h
    rw [setA, setA_out r _ _ _ (by omega), Nat.add_zero, Array.getElem?_setIfInBounds_self, if_pos (by omega)]
  | u :: r, cur, o, i + 1, v, h, hs => by
    rw [setA, show o + (i + 1) = o + 1 + i by omega]
    exact setA_in r _ _ _ _ (by simpa using h) (by simp; omega)
theorem setA_all (vs : List Value) (cur : Array Value) (h : cur.size = vs.length) : setA cur 0 vs = vs.toArray := by
  refine Array.ext' (List.ext_getElem? fun i => ?_)
  rw [Array.getElem?_toList]
  rcases Nat.lt_or_ge i vs.length with hi | hi
  · have := setA_in vs cur 0 i vs[i] (by simp [hi]) (by omega)
    rw [Nat.zero_add] at this
    rw [this]; simp [hi]
  · rw [setA_out vs cur 0 i (Or.inr (by omega))]
    simp [hi, h]
theorem setL_size : ∀ (vs : List Value) (w : World) (b o : Nat), (setL w b o vs).heap.size = w.heap.size
  | [], _, _, _ => rfl
  | v :: r, w, b, o => by rw [setL, setL_size r, World.size_setCell]
theorem setL_blk : ∀ (vs : List Value) {w : World} {b o : Nat} {cur : Array Value} {t : TypeId}, w.heap[b]? = some (.cells cur t (0, 0)) → (setL w b o vs).heap[b]? = some (.cells (setA cur o vs) t (0, 0))
  | [], _, _, _, _, _, h => h
  | v :: r, w, b, o, cur, t, h => by
    rw [setL, setA]
    exact setL_blk r (by simp [World.setCell, Array.getElem?_modify, h])
theorem setL_other : ∀ (vs : List Value) {w : World} {b o n : Nat}, n ≠ b → (setL w b o vs).heap[n]? = w.heap[n]?
  | [], _, _, _, _, _ => rfl
  | v :: r, w, b, o, n, h => by rw [setL, setL_other r h, Below.heap_setCell _ _ _ _ (by simpa using h)]
theorem setL_ex : ∀ (vs : List Value) {a w : World} {b o : Nat}, Ex a w → a.heap.size ≤ b → Ex a (setL w b o vs)
  | [], _, _, _, _, h, _ => h
  | v :: r, a, w, b, o, h, hb => by rw [setL]; exact setL_ex r (h.set hb v) hb
theorem setL_kp : ∀ (vs : List Value) {lo : Nat} {a w : World} {b o : Nat}, Kp lo a w → (b < lo ∨ a.heap.size ≤ b) → Kp lo a (setL w b o vs)
  | [], _, _, _, _, _, h, _ => h
  | v :: r, lo, a, w, b, o, h, hb => by rw [setL]; exact setL_kp r (h.set hb v) hb
theorem blk_set {w : World} {n i : Nat} {vs : Array Value} {t : TypeId} (h : w.heap[n]? = some (.cells vs t (0, 0))) (v : Value) : (w.setCell ⟨n, i, none⟩ v).heap[n]? = some (.cells (vs.setIfInBounds i v) t (0, 0)) := by
  simp [World.setCell, Array.getElem?_modify, h]
theorem blk_off {w : World} {n m i : Nat} {o : Obj} (h : w.heap[n]? = some o) (hn : n ≠ m) (v : Value) : (w.setCell ⟨m, i, none⟩ v).heap[n]? = some o := by
  rw [Below.heap_setCell _ _ _ _ (by simpa using hn)]; exact h
theorem blk_cell {w : World} {n : Nat} {vs : Array Value} {t : TypeId} (h : w.heap[n]? = some (.cells vs t (0, 0))) (i : Nat) : w.cell? ⟨n, i, none⟩ = vs[i]? := by
  simp [World.cell?, h]
theorem blk_free {w : World} {n : Nat} {vs : Array Value} {t : TypeId} (h : w.heap[n]? = some (.cells vs t (0, 0))) (i : Nat) : w.frozen? ⟨n, i, none⟩ = false := by
  simp [World.frozen?, h]

end Go.Proofs.YtgpdnoghlommeaaGreatDoor
