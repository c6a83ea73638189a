/- Walks: the program's bodies that are ok. errors.Is by its contracts, where both are the fault, and where there is none (after the guide's own). Walks: the program's functions that are ok. Walks: how many bindings there are, by both. -/
import Derived.Test.YtgpdnoghlommeaaDoorGTO1
import Derived.Test.YtgpdnoghlommeaaDoorGBD5
import Derived.Test.YtgpdnoghlommeaaDoorSZ2
import Derived.Test.YtgpdnoghlommeaaDoorTO2
import Derived.Shelf.SlMaps.Clone
import Derived.Deep.RegionWith
import Derived.Deep.CutRange
import Derived.Test.YtgpdnoghlommeaaDoorGIM6
import Derived.LaidEql
import Derived.Stop.Asserts
import Derived.RowKitTokens
import Derived.Test.YtgpdnoghlommeaaDoorBD6
import Derived.Test.YtgpdnoghlommeaaDoorGIM4
namespace Go.Proofs

open Go.Shelf
def Tryd.cloneC_ren : Go.Shelf.Ren := ⟨fun | 5 => 55 | 7 => 59 | n => n, fun | 23 => 104 | 25 => 9 | 3 => 3 | 4 => 4 | 20 => 20 | n => n, fun | n => n⟩
theorem Tryd.cloneC : Go.Proofs.SlLaysW.n5 Tryd.prog Tryd.cloneC_ren := {
  mixed := by kernel_rfl
  f5 := ⟨Tryd.f55.name, by decide, Tryd.func55.trans (congrArg some (by kernel_rfl))⟩
  f7 := Tryd.func59.trans (congrArg some (by kernel_rfl))
  t4 := Tryd.underlying4
  a4 := Tryd.isAgg4
  z4 := Tryd.sizeOf4
  v4 := Tryd.zeroValue4
  t20 := Tryd.underlying20
  a20 := Tryd.isAgg20
  z20 := Tryd.sizeOf20
  v20 := Tryd.zeroValue20
  t23 := Tryd.underlying104
  a23 := Tryd.isAgg104
  z23 := Tryd.sizeOf104
  v23 := Tryd.zeroValue104 }
end Go.Proofs

namespace Go.Proofs.YtgpdnoghlommeaaDoor

open Go.RowKit Go.Deep Go.Maps Go.WideMaps

attribute [local go_sem ↓] Go.wp_at_zero Go.wp_at_succ

theorem clone_any (w : World) (mb n : Nat) (ns : List ByteArray) (hC : CM w mb n ns) :
    Calls Tryd.prog 55 #[.map (some mb)] w fun e w' => ∃ mb', e = .returned (.map (some mb')) ∧ CM w' mb' n ns ∧ w.heap.size ≤ mb' ∧ Ex w w' := by
  obtain ⟨D, h1, h2⟩ := hC
  have hcon := AnyW.maps_Clone_owns Tryd.cloneC 9 (plainElem Tryd.prog 3) mb n D w h1
  change Calls Tryd.prog 55 _ _ _ at hcon
  exact hcon.mono fun e w' ⟨he, ho, _, hb⟩ => ⟨_, he, ⟨D, ho, h2⟩, Nat.le_refl _, hb⟩

theorem BS_at {w : World} {S : Nat → Prop} {f : BD} {a : Option Addr} (h : BS w S f a) (h0 : 0 < blen f) : ∃ b o, a = some ⟨b, o, none⟩ ∧ S b ∧ b < w.heap.size ∧ ∀ i, i < blen f → BT8 w S f i b (o + i * 8) := by
  rcases h with h | ⟨b, o, e, hb, ht⟩
  · omega
  · exact ⟨b, o, e, hb, World.block_lt_of_cell? _ _ (BC_cell ht 0 h0).1, fun i hi => BC_cell ht i hi⟩

set_option maxRecDepth 100000 in
set_option maxHeartbeats 4000000 in
theorem body_any (ea : Addr) (fs : List PM) (la : Option Addr) (lc : Nat) (hl : fs.length ≤ 1000000000) (h60 : ∀ s, (arityR fs s).1 ≤ 60) : ∀ (d mb : Nat) (ns : List ByteArray) (b : BD) (ba : Option Addr) (bc : Nat) (z : TM) (za : Option Addr) (zc : Nat) (w : World), d ≤ 6 → ns.length + 25000 * d ≤ 200000 → blen b ≤ 1000000000 → BSm b → BLm b → tlen z ≤ 1000000000 → TSm z → TLm z →
    w.cell? ⟨0, 0, none⟩ = some (EV ea) → CM w mb ns.length ns → QA w 0 fs la → BA w 0 b ba → MA w 0 z za →
    Calls Tryd.prog 48 #[.agg #[.slice la fs.length lc, .map (some mb)], .agg #[.slice ba (blen b) bc, .slice za (tlen z) zc], .int .i64 d] w (ErrP ea (bodyB fs d ns b z) w) := by
  intro d
  induction d with
  | zero =>
    intro mb ns b ba bc z za zc w _ _ _ _ _ _ _ _ hG _ _ _ _
    have g0 : ((w.alloc (.cells #[.slice la fs.length lc, .map (some mb)] 106)).alloc (.cells #[.slice ba (blen b) bc, .slice za (tlen z) zc] 42)).cell? ⟨0, 0, none⟩ = some (EV ea) := ((Ex.new _ _).alloc _).at hG
    go_enter Tryd.func48, Tryd.ntmps48
    go_wp2_with fail
    go_ret
    exact ⟨rfl, (Ex.new _ _).alloc _⟩
  | succ d ih =>
    intro mb ns b ba bc z za zc w hd hns hbl hsm hlm hzl hzm hzk hG hC hQ hB hM
    have G : Hid (∀ w', Ex w w' → w'.cell? ⟨0, 0, none⟩ = some (EV ea)) := fun w' h => h.at hG
    have Q : Hid (∀ w', Ex w w' → QA w' 0 fs la) := fun _ h => QA_below hQ h
    have B : Hid (∀ w', Ex w w' → BS w' (fun bl => bl < w.heap.size) b ba) := fun _ h => BS_ks (BS_mono hB fun _ h1 _ => h1) fun k hk _ => h.block k hk
    have M : Hid (∀ w', Ex w w' → MA w' 0 z za) := fun _ h => MA_below hM h
    have SM : Hid (BSm b) := hsm
    have LM : Hid (BLm b) := hlm
    have I : Hid _ := ih
    have H60 : Hid _ := h60
    have N : Hid (Ex w ((w.alloc (.cells #[.slice la fs.length lc, .map (some mb)] 106)).alloc (.cells #[.slice ba (blen b) bc, .slice za (tlen z) zc] 42))) := (Ex.new _ _).alloc _
    have C : Hid (∀ w', Ex ((w.alloc (.cells #[.slice la fs.length lc, .map (some mb)] 106)).alloc (.cells #[.slice ba (blen b) bc, .slice za (tlen z) zc] 42)) w' → w'.cell? ⟨w.heap.size, 0, none⟩ = some (.slice la fs.length lc) ∧ w'.cell? ⟨w.heap.size, 1, none⟩ = some (.map (some mb)) ∧ w'.cell? ⟨w.heap.size + 1, 0, none⟩ = some (.slice ba (blen b) bc) ∧ w'.cell? ⟨w.heap.size + 1, 1, none⟩ = some (.slice za (tlen z) zc)) := fun w' h => ⟨h.at (by simp), h.at (by simp), h.at (by simp), h.at (by simp)⟩
    obtain ⟨R, hR⟩ : ∃ R, R = bodyB fs (d + 1) ns b z := ⟨_, rfl⟩
    have RR : Hid (R = bodyB fs (d + 1) ns b z) := hR
    rw [← hR]
    obtain ⟨D, hD⟩ : ∃ D : Int, D = ((d + 1 : Nat) : Int) := ⟨_, rfl⟩
    have HD : Hid (D = ((d + 1 : Nat) : Int)) := hD
    rw [← hD]
    have d0 : (D == 0) = false := by rw [beq_eq_false_iff_ne]; omega
    have CL : Hid (∀ w', Ex w w' → Calls Tryd.prog 55 #[.map (some mb)] w' fun e w'' => ∃ mb', e = .returned (.map (some mb')) ∧ CM w'' mb' ns.length ns ∧ w'.heap.size ≤ mb' ∧ Ex w' w'') := fun w' h => clone_any w' mb ns.length ns (hC.ex h)
    have ZK : Hid (TSm z ∧ TLm z) := ⟨hzm, hzk⟩
    have g0 := ((Ex.new _ _).alloc _ : Ex w ((w.alloc (.cells #[.slice la fs.length lc, .map (some mb)] 106)).alloc (.cells #[.slice ba (blen b) bc, .slice za (tlen z) zc] 42))).at hG
    clear hG hC hQ hB hM hR hD hsm hlm ih hzm hzk h60
    by_cases h4 : 400 < blen b
    · have HR : Hid (R = false) := RR.out.trans (bodyB_len h4)
      have e1 : decide ((400 : Int) < (blen b : Int)) = true := decide_eq_true (by omega)
      go_enter Tryd.func48, Tryd.ntmps48
      go_wp2_with fail
      go_ret
      exact ⟨by rw [HR.out]; rfl, N.out⟩
    have e1 : decide ((400 : Int) < (blen b : Int)) = false := decide_eq_false (by omega)
    by_cases h6 : 60 < tlen z
    · have HR : Hid (R = false) := by
        show R = false
        rw [RR.out]
        show (decide (blen b ≤ 400) && (_ && termsB (nsAt ns b (blen b)) z)) = false
        rw [termsB_len h6]; simp
      have e2 : decide ((60 : Int) < (tlen z : Int)) = true := decide_eq_true (by omega)
      go_enter Tryd.func48, Tryd.ntmps48
      go_wp2_with fail
      go_ret
      exact ⟨by rw [HR.out]; rfl, N.out⟩
    have e2 : decide ((60 : Int) < (tlen z : Int)) = false := decide_eq_false (by omega)
    obtain ⟨V, hV⟩ : ∃ V, V = (w.alloc (.cells #[.slice la fs.length lc, .map (some mb)] 106)).alloc (.cells #[.slice ba (blen b) bc, .slice za (tlen z) zc] 42) := ⟨_, rfl⟩
    have HV : Hid (V = (w.alloc (.cells #[.slice la fs.length lc, .map (some mb)] 106)).alloc (.cells #[.slice ba (blen b) bc, .slice za (tlen z) zc] 42)) := hV
    rw [← hV] at N C
    have zV : V.heap.size = w.heap.size + 2 := by rw [hV]; simp only [World.size_alloc]
    have ZV : Hid (V.heap.size = w.heap.size + 2) := zV
    obtain ⟨c0, c1, c2, c3⟩ := C.out V (Ex.refl _)
    clear hV zV
    go_enter Tryd.func48, Tryd.ntmps48
    go_upto_region 3 with fail
    rw [← HV.out]
    clear HV g0
    have y0 : w.heap.size < V.heap.size := by have := ZV.out; omega
    go_cut [7] from 26 to 31 (fun p7 wx => ∃ ib mi, p7 = .pointer (some ⟨ib, 0, none⟩) ∧ wx.cell? ⟨ib, 0, none⟩ = some (.slice la fs.length lc) ∧ wx.cell? ⟨ib, 1, none⟩ = some (.map (some mi)) ∧ CM wx mi ns.length ns ∧ V.heap.size ≤ mi ∧ Ex V wx)
    case first =>
      go_region_with (first | (go_at_call 55; refine (CL.out _ (N.out.trans (by first | exact (Ex.refl _).drew | exact (Ex.refl _).drew.alloc _))).mono ?_; rintro e w5 ⟨m5, rfl, hC5, hm5, hb5⟩; have xb : Ex V w5 := (by refine Ex.trans ?_ hb5; first | exact (Ex.refl _).drew | exact (Ex.refl _).drew.alloc _); have q0 := xb.at c0; have q1 := xb.at c1; have z5 : w.heap.size < w5.heap.size := (World.block_lt_of_cell? _ _ q0); have hm6 : V.heap.size ≤ m5 := (by refine Nat.le_trans ?_ hm5; first | exact Nat.le_refl _ | exact Below.size (Ex.alloc (Ex.drew (Ex.refl V)) _) | exact Below.size (Ex.drew (Ex.alloc (Ex.refl V) _))); first | (have ob : w5.heap[V.heap.size]? = some (.cells #[.slice none 0 0, .map none] 106 (0, 0)) := hb5.blk (heap_alloc_at _ _ rfl); have oc0 : w5.cell? ⟨V.heap.size, 0, none⟩ = some (.slice none 0 0) := blk_cell ob 0; have oc1 : w5.cell? ⟨V.heap.size, 1, none⟩ = some (.map none) := blk_cell ob 1; have of0 := blk_free ob 0; have of1 := blk_free ob 1) | skip))
      all_goals
        go_wp2_with fail
        go_meet
        first
          | exact ⟨V.heap.size, m5, rfl, blk_cell (blk_set (blk_set ob (.slice la fs.length lc)) (.map (some m5))) 0, blk_cell (blk_set (blk_set ob (.slice la fs.length lc)) (.map (some m5))) 1, (hC5.blk (Below.heap_setCell _ ⟨V.heap.size, 0, none⟩ _ _ (fun e => hC5.ne oc0 e.symm))).blk (Below.heap_setCell _ ⟨V.heap.size, 1, none⟩ _ _ (fun e => hC5.ne oc0 e.symm)), hm6, (xb.set (Nat.le_refl _) _).set (Nat.le_refl _) _⟩
          | exact ⟨w5.heap.size, m5, rfl, World.cell?_alloc_new _ _ _ _, World.cell?_alloc_new _ _ _ _, hC5.ex (Ex.new _ _), hm6, xb.alloc _⟩
    case rest =>
      rename World => W2
      obtain ⟨ib, mi, rfl, i0, i1, hCi, hmi, hxi⟩ := hcut
      have X2 : Hid (Ex V W2) := hxi
      have CI : Hid (∀ w', Fr mi W2 w' → w'.cell? ⟨ib, 0, none⟩ = some (.slice la fs.length lc) ∧ w'.cell? ⟨ib, 1, none⟩ = some (.map (some mi))) := fun w' h => ⟨h.at (hCi.ne i0) i0, h.at (hCi.ne i1) i1⟩
      have EX : Hid (∀ w', Fr mi W2 w' → Ex V w') := fun w' h => h.to_ex hxi hmi
      have C2 : Hid (CM W2 mi ns.length ns) := hCi
      have ZM : Hid (V.heap.size ≤ mi) := hmi
      clear c0 c1 c2 c3 hxi i0 i1
      obtain ⟨c0, c1, c2, c3⟩ := C.out W2 X2.out
      clear hCi hmi CL
      go_wp2_with fail
      clear c0 c1 c2 c3
      go_loopw [9, 10, 35] (fun _ _ i wr => ∃ (j : Nat), j ≤ blen b ∧ i = .int .i64 j ∧ (∀ k, k < j → bindAt fs (bodyB fs d) ns b k = true) ∧ CM wr mi (nsAt ns b j).length (nsAt ns b j) ∧ Fr mi W2 wr) (fun _ _ i _ => blen b - (intOf i).toNat)
      case atStart => exact ⟨0, by omega, rfl, fun j hj => by omega, C2.out, Fr.refl _ _⟩
      case round =>
        obtain ⟨j, hj, rfl, hall, hcm, hf⟩ := hrel
        have A : Hid (∀ k, k < j → bindAt fs (bodyB fs d) ns b k = true) := hall
        have F : Hid (Fr mi W2 wr) := hf
        have E : Hid (Ex V wr) := EX.out wr hf
        have CJ : Hid (CM wr mi (nsAt ns b j).length (nsAt ns b j)) := hcm
        obtain ⟨i0, i1⟩ := CI.out wr hf
        obtain ⟨c0, c1, c2, c3⟩ := C.out wr E.out
        have g0 := G.out wr (N.out.trans E.out)
        have hlen : (nsAt ns b j).length ≤ ns.length + 60 * j := nsAt_len j fun i hi => bind_names (A.out i hi)
        have zi : ib < wr.heap.size := World.block_lt_of_cell? _ _ i0
        clear hall hcm hf
        by_cases hlt : j < blen b
        · obtain ⟨bb, o, rfl, _, hbs, hk⟩ := BS_at (B.out wr (N.out.trans E.out)) (by omega)
          obtain ⟨b0, ⟨a1, k1, b1, hnc, x1⟩, b2, ⟨a3, k3, b3, x3⟩, ⟨a4, k4, b4, x4⟩, ⟨a5, k5, b5, x5⟩, ⟨a6, k6, b6, x6⟩, ⟨a7, k7, b7, x7⟩⟩ := hk j hlt
          obtain ⟨s1, s2, s3, s4, s5, s6, s7, s8⟩ := BSm_at SM.out j hlt
          obtain ⟨t1, t2, t3⟩ := BSm_terms SM.out j hlt
          obtain ⟨l1, l2, l3, l4, l5, l6, l7, l8, l9, la', lb', lc', ld'⟩ := BLm_at LM.out j hlt
          have HI : Hid (∀ w', Ex wr w' → Calls Tryd.prog 56 #[.agg #[.slice la fs.length lc, .map (some mi)], .agg #[.int .i64 (bkind b j), .slice a1 (bnames b j).length k1, .string (bfn b j), .slice a3 (tlen (bterms b j)) k3, .slice a4 (blen (bthen b j)) k4, .slice a5 (tlen (btsay b j)) k5, .slice a6 (blen (belse b j)) k6, .slice a7 (tlen (besay b j)) k7], .int .i64 D] w' (BindingP ea mi (nsAt ns b j) (bnames b j) (bindAt fs (bodyB fs d) ns b j) w')) := fun w' h => by
            have e1 : Ex w w' := N.out.trans (E.out.trans h)
            have ks : ∀ w2, Ex wr w2 → Ks (fun bl => bl < w.heap.size) wr w2 := fun w2 h2 k hk hk2 => h2.block k hk2
            have := binding_by ea fs la lc mi (bkind b j) (bnames b j) a1 k1 (bfn b j) (bterms b j) a3 k3 (bthen b j) a4 k4 (btsay b j) a5 k5 (belse b j) a6 k6 (besay b j) a7 k7 hl (nsAt ns b j) (by omega) d (by omega) (bodyB fs d) w' (G.out w' e1) (CJ.out.ex h) (Q.out w' e1)
              (fun w2 h2 => XS_mono (XS_ks x1 fun k hk hk2 => (h2.block k (Nat.lt_of_lt_of_le hk2 h.size) (by have h3 := ZM.out; have h4 := ZV.out; have : k < w.heap.size := hk; omega)).trans (h.block k hk2)) fun _ _ _ => Nat.zero_le _) l2 (MS_mono (MS_ks x3 (ks w' h)) fun _ _ _ => Nat.zero_le _) s2 t1 l5 (H60.out _)
              (fun w2 h2 => I.out mi _ _ _ _ _ _ _ w2 (by omega) (by omega) s3 s4 l7 s5 t2 l9 (G.out w2 (e1.trans h2)) (CJ.out.ex (h.trans h2)) (Q.out w2 (e1.trans h2)) (BS_mono (BS_ks x4 (ks w2 (h.trans h2))) fun _ _ _ => Nat.zero_le _) (MS_mono (MS_ks x5 (ks w2 (h.trans h2))) fun _ _ _ => Nat.zero_le _))
              (fun w2 h2 => I.out mi _ _ _ _ _ _ _ w2 (by omega) (by omega) s6 s7 lb' s8 t3 ld' (G.out w2 (e1.trans h2)) (CJ.out.ex (h.trans h2)) (Q.out w2 (e1.trans h2)) (BS_mono (BS_ks x6 (ks w2 (h.trans h2))) fun _ _ _ => Nat.zero_le _) (MS_mono (MS_ks x7 (ks w2 (h.trans h2))) fun _ _ _ => Nat.zero_le _))
            rw [← HD.out] at this
            exact this
          have U : Hid (bindAt fs (bodyB fs d) ns b j = true → ∀ k, k < j + 1 → bindAt fs (bodyB fs d) ns b k = true) := fun h => upto_succ A.out h
          have V1 : Hid (bindAt fs (bodyB fs d) ns b j = false → R = false) := fun h => RR.out.trans (bodyB_no hlt h)
          clear hk x1 x3 x4 x5 x6 x7 s1 s2 s3 s4 s5 s6 s7 s8 t1 t2 t3 l1 l2 l3 l4 l5 l6 l7 l8 l9 la' lb' lc' ld' c0 c1 c2 c3 g0 CJ
          go_wp2_with fail
          refine Calls.mono (HI.out _ (Ex.new _ _)) ?_
          rintro e w3 ⟨rfl, hf3, hc3⟩
          have F3 : Hid (Fr mi W2 w3) := F.out.trans ((Fr.of_ex (Ex.new _ _) _).trans hf3)
          have CN : Hid (bindAt fs (bodyB fs d) ns b j = true → CM w3 mi (nsAt ns b (j + 1)).length (nsAt ns b (j + 1))) := hc3
          clear hf3 hc3 HI b0 b1 b2 b3 b4 b5 b6 b7
          obtain ⟨r, hr⟩ : ∃ r, bindAt fs (bodyB fs d) ns b j = r := ⟨_, rfl⟩
          rw [hr] at U V1 CN ⊢
          clear hr
          cases r with
          | false =>
            have HR : Hid (R = false) := V1.out rfl
            clear U V1 CN
            simp only [errV, Bool.false_eq_true, if_false]
            go_wp2_with fail
            go_ret
            exact ⟨by rw [HR.out]; rfl, N.out.trans (EX.out _ F3.out)⟩
          | true =>
            have HU : Hid _ := U.out rfl
            have CE : Hid _ := CN.out rfl
            clear U V1 CN
            simp only [errV, if_true]
            go_wp2_with fail
            go_roundw
            case rel => exact ⟨j + 1, by omega, by go_num, HU.out, CE.out, F3.out⟩
            case measure => simp [intOf]; omega
        · have hje : j = blen b := by omega
          have HR : Hid (R = kidsB (nsAt ns b j) 8 z) := by
            show R = _
            rw [RR.out, bodyB_end (by omega) (fun i hi => A.out i (by omega)), hje]
            show (decide (tlen z ≤ 60) && kidsB (nsAt ns b (blen b)) 8 z) = _
            rw [decide_eq_true (show tlen z ≤ 60 by omega)]; rfl
          have LT : Hid (∀ w', Ex wr w' → Calls Tryd.prog 57 #[.agg #[.slice la fs.length lc, .map (some mi)], .slice za (tlen z) zc, .int .i64 8] w' (ErrP ea R w')) := fun w' h => by
            rw [HR.out]
            exact terms_any ea la fs.length lc mi (nsAt ns b j).length (nsAt ns b j) 8 z za zc w' (by omega) (G.out w' (N.out.trans (E.out.trans h))) (CJ.out.ex h) (M.out w' (N.out.trans (E.out.trans h))) (by omega) ZK.out.1 ZK.out.2
          clear hje
          go_wp2_with fail
          refine Calls.mono (LT.out _ (Ex.refl _)) ?_
          rintro e w3 ⟨rfl, hb3⟩
          go_wp2_with fail
          go_ret
          exact ⟨rfl, N.out.trans (E.out.trans hb3)⟩

end Go.Proofs.YtgpdnoghlommeaaDoor

namespace Go.Proofs.YtgpdnoghlommeaaDoor

open Go.RowKit Go.Deep Go.Extern.Stop Go.Stop Go.Extern

attribute [local go_sem ↓] Go.wp_at_zero Go.wp_at_succ

theorem Tryd.isTypeOf (v : Value) (w : World) : (Extern.ReflectliteType.typeOf #[.iface 125 v]).run Tryd.prog w = .ok (.iface 91 (.agg #[.pointer (some ⟨1, 125, none⟩)])) w := by kernel_rfl
/-- What the model answers for rtype's Comparable. -/
def cmpE : Array Value → Sem Value := Extern.ReflectliteType.method fun t => do Extern.Rtype.noPackHeld "Comparable" t; pure (.bool (← typeInfo t).comparable)
theorem Tryd.isComparable (w : World) : (cmpE #[.agg #[.pointer (some ⟨1, 125, none⟩)]]).run Tryd.prog w = .ok (.bool true) w := by kernel_rfl
theorem Tryd.isMethodComparable (v : Value) (w : World) : (Go.method 263 91 v "Comparable").run Tryd.prog w = .ok (84, v) w := by kernel_rfl
theorem Tryd.isComp : (Tryd.prog.info? 125).map (·.comparable) = some true := by kernel_rfl
theorem Tryd.isSize : (Tryd.prog.info? 151).map (·.size) = some 1 := by kernel_rfl

set_option maxRecDepth 100000 in
/-- errors.Is(x, x), x a pointer to an errors.errorString. -/
theorem is_same (a : Addr) (w : World) :
    Calls Tryd.prog 24 #[EV a, EV a] w fun e w' => e = .returned (.bool true) ∧ Ex w w' := by
  obtain ⟨i, hi, hcmp⟩ := Option.map_eq_some_iff.1 Tryd.isComp
  obtain ⟨j, hj, hjs⟩ := Option.map_eq_some_iff.1 Tryd.isSize
  have h8 := @run_callFunc_extern Tryd.prog 34 _ Extern.ReflectliteType.typeOf Tryd.func34 (by kernel_rfl) (by kernel_rfl) (by kernel_rfl) (by kernel_rfl)
  have h32 := @run_callFunc_extern Tryd.prog 84 _ cmpE Tryd.func84 (by kernel_rfl) (by kernel_rfl) (by kernel_rfl) (by kernel_rfl)
  have tT := Tryd.isTypeOf
  have cT := Tryd.isComparable
  have mR := Tryd.isMethodComparable
  have heq := run_eql_iface_ptr_same (P := Tryd.prog) w a Tryd.underlying60 Tryd.underlying125 hi hcmp hj
  go_enter Tryd.func24, Tryd.ntmps24
  go_wp2
  refine wp_loop_rounds 1 ?_
  rw [rounds_succ]
  go_wp2
  go_ret
  exact ⟨rfl, Ex.refl _⟩

set_option maxRecDepth 100000 in
/-- errors.Is(nil, x). -/
theorem is_nil (b : Addr) (w : World) :
    Calls Tryd.prog 24 #[.nilIface, EV b] w fun e w' => e = .returned (.bool false) ∧ Ex w w' := by
  have hn := run_eql_iface_nil_left (P := Tryd.prog) w 125 (.pointer (some b)) Tryd.underlying60
  go_enter Tryd.func24, Tryd.ntmps24
  go_wp2
  go_ret
  exact ⟨rfl, Ex.refl _⟩

end Go.Proofs.YtgpdnoghlommeaaDoor

namespace Go.Proofs.YtgpdnoghlommeaaDoor

open Go.RowKit Go.Deep Go.Maps Go.WideMaps

attribute [local go_sem ↓] Go.wp_at_zero Go.wp_at_succ

/-- A function is ok behind those ahead, as the program asks it. -/
def chkB (fs : List PM) (g : PM) : Bool := !(arityR fs g.name).2.2 && (wordB g.name && (namesB g.params && bodyB fs 6 g.params g.binds g.says))
theorem chk_pure (l : List PM) (i : Nat) : chkB (l.take i) (l.getD i pm0) = pureAt l i := by
  simp only [chkB, pureAt, namesB]
  cases (arityR (l.take i) (l.getD i pm0).name).2.2 <;> cases wordB (l.getD i pm0).name <;> cases decide ((l.getD i pm0).params.length ≤ 60) <;> cases uniqB (l.getD i pm0).params <;> cases bodyB (l.take i) 6 (l.getD i pm0).params (l.getD i pm0).binds (l.getD i pm0).says <;> rfl
theorem QA_take {w : World} {lo : Nat} {l : List PM} {a : Option Addr} (h : QA w lo l a) (j : Nat) (hj : j ≤ l.length) : QA w lo (l.take j) a ∧ (l.take j).length = j := by
  have hl : (l.take j).length = j := by rw [List.length_take]; omega
  refine ⟨?_, hl⟩
  rcases h with h | ⟨b, o, e, hb, hc⟩
  · exact Or.inl (by omega)
  · refine Or.inr ⟨b, o, e, hb, fun i hi => ?_⟩
    have := hc i (by omega)
    simp only [List.getD] at this ⊢
    rw [List.getElem?_take_of_lt (by omega)]
    exact this
theorem pureAt_params {l : List PM} {i : Nat} (h : pureAt l i = true) : (l.getD i pm0).params.length ≤ 60 := by
  simp only [pureAt, Bool.and_eq_true, decide_eq_true_eq] at h
  exact h.2.2.1
theorem arity_60 {l : List PM} {j : Nat} (h : ∀ k, k < j → pureAt l k = true) (s : ByteArray) : (arityR (l.take j) s).1 ≤ 60 := by
  simp only [arityR]
  cases hf : (l.take j).find? (fun f => f.name.toList == s.toList) with
  | none => simp
  | some g =>
    have hm := List.mem_of_find?_eq_some hf
    obtain ⟨i, hi, rfl⟩ := List.getElem_of_mem hm
    rw [List.length_take] at hi
    have := pureAt_params (h i (by omega))
    simp only [List.getD, List.getElem?_eq_getElem (show i < l.length by omega), Option.getD_some] at this
    simp only [List.getElem_take]
    exact this

set_option maxRecDepth 100000 in
set_option maxHeartbeats 4000000 in
theorem checkPure_any (ea : Addr) (fs : List PM) (la : Option Addr) (lc : Nat) (hl : fs.length ≤ 1000000000) (h60 : ∀ s, (arityR fs s).1 ≤ 60) (gn : ByteArray) (gp : List ByteArray) (a1 : Option Addr) (k1 : Nat) (gb : BD) (a2 : Option Addr) (k2 : Nat) (gs : TM) (a3 : Option Addr) (k3 : Nat) (w : World)
    (hz : XLm gp) (hb : blen gb ≤ 1000000000) (hbm : BSm gb) (hbl : BLm gb) (hs : tlen gs ≤ 1000000000) (hsm : TSm gs) (hsl : TLm gs) (hG : w.cell? ⟨0, 0, none⟩ = some (EV ea)) (hQ : QA w 0 fs la) (hX : XA w 0 gp a1) (hB : BA w 0 gb a2) (hM : MA w 0 gs a3) :
    Calls Tryd.prog 36 #[.slice la fs.length lc, .agg #[.string gn, .slice a1 gp.length k1, .slice a2 (blen gb) k2, .slice a3 (tlen gs) k3]] w (ErrP ea (chkB fs ⟨gn, gp, gb, gs⟩) w) := by
  have G : Hid (∀ w', Ex w w' → w'.cell? ⟨0, 0, none⟩ = some (EV ea)) := fun w' h => h.at hG
  have X : Hid (∀ w', Ex w w' → XA w' 0 gp a1) := fun _ h => XA_below hX h
  have XF : Hid (∀ w1 w2 mb, Ex w w1 → w.heap.size ≤ mb → Fr mb w1 w2 → XA w2 0 gp a1) := fun w1 w2 mb h1 hm h2 => XA_below hX (h2.to_ex h1 hm)
  have QQ : Hid (∀ w', Ex w w' → QA w' 0 fs la) := fun _ h => QA_below hQ h
  have BY : Hid (∀ w' mb, Ex w w' → gp.length ≤ 60 → CM w' mb gp.length gp → Calls Tryd.prog 48 #[.agg #[.slice la fs.length lc, .map (some mb)], .agg #[.slice a2 (blen gb) k2, .slice a3 (tlen gs) k3], .int .i64 6] w' (ErrP ea (bodyB fs 6 gp gb gs) w')) := fun w' mb h hp hc => body_any ea fs la lc hl h60 6 mb gp gb a2 k2 gs a3 k3 w' (by omega) (by omega) hb hbm hbl hs hsm hsl (h.at hG) hc (QA_below hQ h) (BA_below hB h) (MA_below hM h)
  have ZP : Hid (XLm gp) := hz
  have N : Hid (Ex w (w.alloc (.cells #[.string gn, .slice a1 gp.length k1, .slice a2 (blen gb) k2, .slice a3 (tlen gs) k3] 44))) := Ex.new _ _
  have C : Hid (∀ w', Ex (w.alloc (.cells #[.string gn, .slice a1 gp.length k1, .slice a2 (blen gb) k2, .slice a3 (tlen gs) k3] 44)) w' → w'.cell? ⟨w.heap.size, 0, none⟩ = some (.string gn) ∧ w'.cell? ⟨w.heap.size, 1, none⟩ = some (.slice a1 gp.length k1) ∧ w'.cell? ⟨w.heap.size, 2, none⟩ = some (.slice a2 (blen gb) k2) ∧ w'.cell? ⟨w.heap.size, 3, none⟩ = some (.slice a3 (tlen gs) k3)) := fun w' h => ⟨h.at (by simp), h.at (by simp), h.at (by simp), h.at (by simp)⟩
  obtain ⟨R, hR⟩ : ∃ R, R = chkB fs ⟨gn, gp, gb, gs⟩ := ⟨_, rfl⟩
  have RR : Hid (R = (!(arityR fs gn).2.2 && (wordB gn && (namesB gp && bodyB fs 6 gp gb gs)))) := hR
  rw [← hR]
  obtain ⟨bn, hbn⟩ : ∃ b, namesB gp = b := ⟨_, rfl⟩
  have L60 : Hid (bn = true → gp.length ≤ 60) := fun h => by rw [← hbn] at h; simp only [namesB, Bool.and_eq_true, decide_eq_true_eq] at h; exact h.1
  have NO : Hid (∀ w', Ex w w' → Calls Tryd.prog 46 #[.slice a1 gp.length k1] w' fun e w'' => e = .returned (.bool bn) ∧ Ex w' w'') := fun w' h => by have := namesOk_any gp a1 k1 w' ZP.out (X.out w' h); rw [hbn] at this; exact this
  rw [hbn] at RR
  have hmm := @run_makeMap Tryd.prog
  clear hR hbn hz hb hbm hbl hs hsm hsl hG hQ hX hB hM h60 X
  go_enter Tryd.func36, Tryd.ntmps36
  go_wp2_with fail
  refine (named_any fs la lc gn _ hl (QQ.out _ N.out)).mono ?_
  rintro e w1 ⟨qn, q1, np, j1, q2, nb, j2, q3, nz, j3, ok, rfl, hg, hb1⟩
  have R1 : Hid (R = (!ok && (wordB gn && (bn && bodyB fs 6 gp gb gs)))) := RR.out.trans (by rw [hg])
  have X1 : Hid (Ex (w.alloc (.cells #[.string gn, .slice a1 gp.length k1, .slice a2 (blen gb) k2, .slice a3 (tlen gs) k3] 44)) (w1.alloc (.cells #[.string qn, .slice q1 np j1, .slice q2 nb j2, .slice q3 nz j3] 44))) := hb1.alloc _
  obtain ⟨c0, c1, c2, c3⟩ := C.out w1 hb1
  have z1 : w.heap.size < w1.heap.size := World.block_lt_of_cell? _ _ c0
  have g1 := G.out _ (N.out.trans X1.out)
  have gz : 0 < w1.heap.size := by omega
  have g0 := G.out w1 (N.out.trans hb1)
  clear hg hb1 RR
  cases ok with
  | true =>
    have HR : Hid (R = false) := R1.out
    go_wp2_with fail
    go_ret
    exact ⟨by rw [HR.out]; rfl, N.out.trans X1.out⟩
  | false =>
    go_wp2_with fail
    refine (nameOk_any gn _).mono ?_
    rintro e w2 ⟨rfl, hb2⟩
    have X2 : Hid (Ex (w.alloc (.cells #[.string gn, .slice a1 gp.length k1, .slice a2 (blen gb) k2, .slice a3 (tlen gs) k3] 44)) w2) := X1.out.trans hb2
    clear c0 c1 c2 c3 g0 g1 hb2 z1 gz
    obtain ⟨c0, c1, c2, c3⟩ := C.out w2 X2.out
    have g0 := G.out w2 (N.out.trans X2.out)
    cases hw : wordB gn with
    | false =>
      have HR : Hid (R = false) := R1.out.trans (by rw [hw]; rfl)
      clear hw
      go_wp2_with fail
      go_ret
      exact ⟨by rw [HR.out]; rfl, N.out.trans X2.out⟩
    | true =>
      have R2 : Hid (R = (bn && bodyB fs 6 gp gb gs)) := R1.out.trans (by rw [hw]; rfl)
      clear hw R1
      go_wp2_with fail
      refine (NO.out _ (N.out.trans X2.out)).mono ?_
      rintro e w3 ⟨rfl, hb3⟩
      have X3 : Hid (Ex (w.alloc (.cells #[.string gn, .slice a1 gp.length k1, .slice a2 (blen gb) k2, .slice a3 (tlen gs) k3] 44)) w3) := X2.out.trans hb3
      clear c0 c1 c2 c3 g0 hb3
      obtain ⟨c0, c1, c2, c3⟩ := C.out w3 X3.out
      have z3 : w.heap.size < w3.heap.size := World.block_lt_of_cell? _ _ c0
      have g0 := G.out w3 (N.out.trans X3.out)
      cases bn with
      | false =>
        have HR : Hid (R = false) := R2.out
        go_wp2_with fail
        go_ret
        exact ⟨by rw [HR.out]; rfl, N.out.trans X3.out⟩
      | true =>
        have h6 : gp.length ≤ 60 := L60.out (by first | trivial | rfl)
        have HR : Hid (R = bodyB fs 6 gp gb gs) := R2.out.trans (by first | rfl | simp)
        have BI : Hid (∀ w', Ex (w3.alloc (.map #[] 0)) w' → Calls Tryd.prog 47 #[.agg #[.slice la fs.length lc, .map (some w3.heap.size)], .slice a1 gp.length k1] w' (BindP w3.heap.size 0 [] gp w')) := fun w' h =>
          bind_any la fs.length lc w3.heap.size 0 [] gp a1 k1 w' ((CM_made w3).ex h) (fun w2 h2 => XF.out w' w2 _ (N.out.trans (X3.out.trans ((Ex.new _ _).trans h))) (by omega) h2) ZP.out (by omega) (by simp; omega)
        clear R2 L60 NO
        go_wp2_with fail
        refine Calls.mono (BI.out _ (Ex.new _ _)) ?_
        rintro e w4 ⟨rfl, hc4, hf4⟩
        have X4 : Hid (Ex (w.alloc (.cells #[.string gn, .slice a1 gp.length k1, .slice a2 (blen gb) k2, .slice a3 (tlen gs) k3] 44)) w4) := hf4.to_ex (X3.out.trans ((Ex.new _ _).alloc _)) (by rw [World.size_alloc]; omega)
        have hc5 : CM w4 w3.heap.size gp.length gp := by rw [Nat.zero_add, List.nil_append] at hc4; exact hc4
        have C5 : Hid _ := hc5
        have ci0 : w4.cell? ⟨w3.heap.size + 1, 0, none⟩ = some (.slice la fs.length lc) := hf4.at (by show w3.heap.size + 1 ≠ w3.heap.size; omega) (by simp)
        have ci1 : w4.cell? ⟨w3.heap.size + 1, 1, none⟩ = some (.map (some w3.heap.size)) := hf4.at (by show w3.heap.size + 1 ≠ w3.heap.size; omega) (by simp)
        clear hc4 hf4 hc5 c0 c1 c2 c3 BI hmm g0
        obtain ⟨c0, c1, c2, c3⟩ := C.out w4 X4.out
        go_wp2_with fail
        refine Calls.mono (BY.out _ _ (N.out.trans X4.out) h6 C5.out) ?_
        rintro e w5 ⟨rfl, hb5⟩
        go_wp2_with fail
        go_ret
        exact ⟨by rw [HR.out]; rfl, N.out.trans (X4.out.trans hb5)⟩

set_option maxRecDepth 100000 in
set_option maxHeartbeats 4000000 in
theorem checkPures_any (ea : Addr) (l : List PM) (a : Option Addr) (c : Nat) (w : World) (hl : l.length ≤ 1000000000) (hcap : l.length ≤ c) (hs : PSkTo l l.length) (hlm : ∀ j, j < l.length → PLm (l.getD j pm0)) (hG : w.cell? ⟨0, 0, none⟩ = some (EV ea)) (hQ : QA w 0 l a) :
    Calls Tryd.prog 25 #[.slice a l.length c] w (ErrP ea (pureB l) w) := by
  have G : Hid (∀ w', Ex w w' → w'.cell? ⟨0, 0, none⟩ = some (EV ea)) := fun w' h => h.at hG
  have Q : Hid (∀ w', Ex w w' → QA w' 0 l a) := fun _ h => QA_below hQ h
  have SK : Hid _ := hs
  have LM : Hid _ := hlm
  obtain ⟨R, hR⟩ : ∃ R, R = pureB l := ⟨_, rfl⟩
  have RR : Hid (R = pureB l) := hR
  rw [← hR]
  have g0 := hG
  clear hG hQ hs hlm hR
  by_cases h10 : 10 < l.length
  · have HR : Hid (R = false) := RR.out.trans (pureB_len h10)
    have e1 : decide ((10 : Int) < (l.length : Int)) = true := decide_eq_true (by omega)
    go_enter Tryd.func25, Tryd.ntmps25
    go_wp2_with fail
    go_ret
    exact ⟨by rw [HR.out]; rfl, Ex.refl _⟩
  have e1 : decide ((10 : Int) < (l.length : Int)) = false := decide_eq_false (by omega)
  clear g0
  go_enter Tryd.func25, Tryd.ntmps25
  go_wp2_with fail
  go_loopw [3, 4, 5, 12] (fun _ _ _ i wr => ∃ (j : Nat), j ≤ l.length ∧ i = .int .i64 j ∧ (∀ k, k < j → pureAt l k = true) ∧ Ex w wr) (fun _ _ _ i _ => l.length - (intOf i).toNat)
  case atStart => exact ⟨0, by omega, rfl, fun j hj => by omega, Ex.refl _⟩
  case round =>
    obtain ⟨j, hj, rfl, hall, hx⟩ := hrel
    have A : Hid (∀ k, k < j → pureAt l k = true) := hall
    have E : Hid (Ex w wr) := hx
    clear hall hx
    by_cases hlt : j < l.length
    · obtain ⟨b, o, rfl, _, hbs, hk⟩ := QA_at (Q.out wr E.out) (by omega)
      obtain ⟨b0, ⟨a1, k1, b1, hnc, x1⟩, ⟨a2, k2, b2, x2⟩, ⟨a3, k3, b3, x3⟩⟩ := hk j hlt
      obtain ⟨s1, ⟨s2, s3⟩, s4, s5⟩ := SK.out j hlt
      obtain ⟨l1, l2, l3, l4, l5, l6, l7⟩ := LM.out j hlt
      have U : Hid (pureAt l j = true → ∀ k, k < j + 1 → pureAt l k = true) := fun h => upto_succ A.out h
      have V : Hid (pureAt l j = false → R = false) := fun h => RR.out.trans (pureB_no hlt h)
      have HC : Hid (∀ w', Ex wr w' → Calls Tryd.prog 36 #[.slice (some ⟨b, o, none⟩) j c, .agg #[.string (l.getD j pm0).name, .slice a1 (l.getD j pm0).params.length k1, .slice a2 (blen (l.getD j pm0).binds) k2, .slice a3 (tlen (l.getD j pm0).says) k3]] w' (ErrP ea (pureAt l j) w')) := fun w' h => by
        have hq := QA_take (Q.out w' (E.out.trans h)) j hj
        have := checkPure_any ea (l.take j) (some ⟨b, o, none⟩) c (by omega) (arity_60 A.out) (l.getD j pm0).name (l.getD j pm0).params a1 k1 (l.getD j pm0).binds a2 k2 (l.getD j pm0).says a3 k3 w' l3 (by omega) s3 l5 (by omega) s5 l7 (G.out w' (E.out.trans h)) hq.1 (XA_below x1 h) (BA_below x2 h) (MA_below x3 h)
        rw [hq.2] at this
        have e := chk_pure l j
        rw [show (⟨(l.getD j pm0).name, (l.getD j pm0).params, (l.getD j pm0).binds, (l.getD j pm0).says⟩ : PM) = l.getD j pm0 from rfl, e] at this
        exact this
      obtain ⟨r, hr⟩ : ∃ r, pureAt l j = r := ⟨_, rfl⟩
      rw [hr] at U V HC
      obtain ⟨g, hg⟩ : ∃ g, l.getD j pm0 = g := ⟨_, rfl⟩
      rw [hg] at b0 b1 b2 b3 HC
      clear hk hg hr x1 x2 x3 s1 s2 s3 s4 s5 l1 l2 l3 l4 l5 l6 l7
      obtain ⟨gn, gp, gb, gs⟩ := g
      dsimp only at b0 b1 b2 b3 HC
      have hjc : j ≤ c := by omega
      have KS : Hid (∀ w', Ex (wr.alloc (.cells #[.string gn, .slice a1 gp.length k1, .slice a2 (blen gb) k2, .slice a3 (tlen gs) k3] 44)) w' → (Ex (wr.alloc (.cells #[.string gn, .slice a1 gp.length k1, .slice a2 (blen gb) k2, .slice a3 (tlen gs) k3] 44)) w' ∧ w'.cell? ⟨wr.heap.size, 0, none⟩ = some (.string gn) ∧ w'.cell? ⟨wr.heap.size, 1, none⟩ = some (.slice a1 gp.length k1) ∧ w'.cell? ⟨wr.heap.size, 2, none⟩ = some (.slice a2 (blen gb) k2) ∧ w'.cell? ⟨wr.heap.size, 3, none⟩ = some (.slice a3 (tlen gs) k3))) := fun w' h => ⟨h, h.at (by simp), h.at (by simp), h.at (by simp), h.at (by simp)⟩
      go_wp2_with fail
      clear b0 b1 b2 b3
      refine wp_region_held_drew (S := fun w' => Ex (wr.alloc (.cells #[.string gn, .slice a1 gp.length k1, .slice a2 (blen gb) k2, .slice a3 (tlen gs) k3] 44)) w' ∧ w'.cell? ⟨wr.heap.size, 0, none⟩ = some (.string gn) ∧ w'.cell? ⟨wr.heap.size, 1, none⟩ = some (.slice a1 gp.length k1) ∧ w'.cell? ⟨wr.heap.size, 2, none⟩ = some (.slice a2 (blen gb) k2) ∧ w'.cell? ⟨wr.heap.size, 3, none⟩ = some (.slice a3 (tlen gs) k3)) (by kernel_rfl) (KS.out _ (Ex.refl _).drew) (fun hHeld => ?_)
      refine wpAnyH_take (i := 0) (v := ?_) rfl (by kernel_rfl) (by kernel_rfl) (by kernel_rfl) (fun _ _ _ h => h) (Or.inl ⟨by rfl, ?_⟩) (by assumption) ?_
      rotate_left
      · (intro w' hSw; (try dsimp only at hSw); go_simp) <;> with_reducible rfl
      change wpAnyH Tryd.prog _ _ _ _ _ _ (Act.put _ (some 17) _) _
      (try simp only [Act.put, List.setIfInBounds_toArray, List.set_cons_zero, List.set_cons_succ])
      refine wpAnyH_take (i := 1) (v := ?_) rfl (by kernel_rfl) (by kernel_rfl) (by kernel_rfl) (fun _ _ _ h => h) (Or.inl ⟨by rfl, ?_⟩) (by assumption) ?_
      rotate_left
      · (intro w' hSw; (try dsimp only at hSw); go_simp) <;> with_reducible rfl
      change wpAnyH Tryd.prog _ _ _ _ _ _ (Act.put _ (some 18) _) _
      (try simp only [Act.put, List.setIfInBounds_toArray, List.set_cons_zero, List.set_cons_succ])
      refine wpAnyH_take (i := 2) (v := ?_) rfl (by kernel_rfl) (by kernel_rfl) (by kernel_rfl) (fun _ _ _ h => h) (Or.inl ⟨by rfl, ?_⟩) (by assumption) ?_
      rotate_left
      · (intro w' hSw; (try dsimp only at hSw); go_simp) <;> with_reducible rfl
      change wpAnyH Tryd.prog _ _ _ _ _ _ (Act.put _ (some 19) _) _
      (try simp only [Act.put, List.setIfInBounds_toArray, List.set_cons_zero, List.set_cons_succ])
      refine wpAnyH_take (i := 3) (v := ?_) rfl (by kernel_rfl) (by kernel_rfl) (by kernel_rfl) (fun _ _ _ h => h) (Or.inl ⟨by rfl, ?_⟩) (by assumption) ?_
      rotate_left
      · (intro w' hSw; (try dsimp only at hSw); go_simp) <;> with_reducible rfl
      change wpAnyH Tryd.prog _ _ _ _ _ _ (Act.put _ (some 20) _) _
      (try simp only [Act.put, List.setIfInBounds_toArray, List.set_cons_zero, List.set_cons_succ])
      refine wpAnyH_ready (rs := [4]) (by kernel_rfl) (by simp) ?_
      refine AllReadyH.cons (i := 4) rfl (fun K hK => ?_) AllReadyH.nil
      go_simp
      refine Calls.mono (HC.out _ ((Ex.new _ _).trans hHeld.1)) ?_
      rintro e w2 ⟨rfl, hb2⟩
      have hx2 := Ex.trans (And.left hHeld) hb2
      clear hHeld
      cases r with
      | false =>
        have HR : Hid (R = false) := V.out rfl
        clear U V HC
        simp only [errV, Bool.false_eq_true, if_false]
        go_wp2_with fail
        refine hK.out _ _ ?_ (fun hHeld => ?_)
        · exact KS.out _ hx2
        clear hK
        (try simp only [Act.put, List.setIfInBounds_toArray, List.set_cons_zero, List.set_cons_succ])
        refine wpAnyH_take (i := 5) (v := ?_) rfl (by kernel_rfl) (by kernel_rfl) (by kernel_rfl) (fun _ _ _ h => h) (Or.inl ⟨by rfl, ?_⟩) (by assumption) ?_
        rotate_left
        · (intro w' hSw; (try dsimp only at hSw); go_simp) <;> with_reducible rfl
        change wpAnyH Tryd.prog _ _ _ _ _ _ (Act.put _ (some 5) _) _
        (try simp only [Act.put, List.setIfInBounds_toArray, List.set_cons_zero, List.set_cons_succ])
        refine wpAnyH_done (by kernel_rfl) ?_ _
        go_wp2_with fail
        go_ret
        exact ⟨by rw [HR.out]; rfl, E.out.trans ((Ex.new _ _).trans hHeld.1)⟩
      | true =>
        have HU : Hid _ := U.out rfl
        clear U V HC
        simp only [errV, if_true]
        go_wp2_with fail
        refine hK.out _ _ ?_ (fun hHeld => ?_)
        · exact KS.out _ hx2
        clear hK
        (try simp only [Act.put, List.setIfInBounds_toArray, List.set_cons_zero, List.set_cons_succ])
        refine wpAnyH_take (i := 5) (v := ?_) rfl (by kernel_rfl) (by kernel_rfl) (by kernel_rfl) (fun _ _ _ h => h) (Or.inl ⟨by rfl, ?_⟩) (by assumption) ?_
        rotate_left
        · (intro w' hSw; (try dsimp only at hSw); go_simp) <;> with_reducible rfl
        change wpAnyH Tryd.prog _ _ _ _ _ _ (Act.put _ (some 5) _) _
        (try simp only [Act.put, List.setIfInBounds_toArray, List.set_cons_zero, List.set_cons_succ])
        refine wpAnyH_done (by kernel_rfl) ?_ _
        go_wp2_with fail
        go_roundw
        case rel => exact ⟨j + 1, by omega, by go_num, HU.out, E.out.trans ((Ex.new _ _).trans hHeld.1)⟩
        case measure => simp [intOf]; omega
    · have HR : Hid (R = true) := RR.out.trans (pureB_yes (by omega) fun i hi => A.out i (by omega))
      go_wp2_with fail
      go_ret
      exact ⟨by rw [HR.out]; rfl, E.out⟩

set_option maxRecDepth 100000 in
set_option maxHeartbeats 4000000 in
theorem iPureOk_any (ea : Addr) (l : List PM) (a : Option Addr) (c : Nat) (w : World) (hl : l.length ≤ 1000000000) (hcap : l.length ≤ c) (hs : PSkTo l l.length) (hlm : ∀ j, j < l.length → PLm (l.getD j pm0)) (hG : w.cell? ⟨0, 0, none⟩ = some (EV ea)) (hQ : QA w 0 l a) :
    Calls Tryd.prog 13 #[.slice a l.length c] w fun e w' => e = .returned (.bool (pureB l)) ∧ Ex w w' := by
  have CP : Hid (∀ w', Ex w w' → Calls Tryd.prog 25 #[.slice a l.length c] w' (ErrP ea (pureB l) w')) := fun w' h => checkPures_any ea l a c w' hl hcap hs hlm (h.at hG) (QA_below hQ h)
  have KS : Hid (∀ w', Ex w w' → (Ex w w' ∧ w'.cell? ⟨0, 0, none⟩ = some (EV ea))) := fun w' h => ⟨h, h.at hG⟩
  obtain ⟨R, hR⟩ : ∃ R, R = pureB l := ⟨_, rfl⟩
  rw [← hR] at CP ⊢
  clear hG hQ hs hlm hR hl hcap
  go_enter Tryd.func13, Tryd.ntmps13
  go_wp2_with fail
  refine wp_region_held_drew (S := fun w' => Ex w w' ∧ w'.cell? ⟨0, 0, none⟩ = some (EV ea)) (by kernel_rfl) (KS.out _ (Ex.refl _).drew) (fun hHeld => ?_)
  refine wpAnyH_take (i := 0) (v := ?_) rfl (by kernel_rfl) (by kernel_rfl) (by kernel_rfl) (fun _ _ _ h => h) (Or.inl ⟨by rfl, ?_⟩) (by assumption) ?_
  rotate_left
  · (intro w' hSw; (try dsimp only at hSw); go_simp) <;> with_reducible rfl
  change wpAnyH Tryd.prog _ _ _ _ _ _ (Act.put _ (some 3) _) _
  (try simp only [Act.put, List.setIfInBounds_toArray, List.set_cons_zero, List.set_cons_succ])
  refine wpAnyH_take (i := 2) (v := ?_) rfl (by kernel_rfl) (by kernel_rfl) (by kernel_rfl) (fun _ _ _ h => h) (Or.inl ⟨by rfl, ?_⟩) (by assumption) ?_
  rotate_left
  · (intro w' hSw; (try dsimp only at hSw); go_simp) <;> with_reducible rfl
  change wpAnyH Tryd.prog _ _ _ _ _ _ (Act.put _ (some 5) _) _
  (try simp only [Act.put, List.setIfInBounds_toArray, List.set_cons_zero, List.set_cons_succ])
  refine wpAnyH_ready (rs := [1]) (by kernel_rfl) (by simp) ?_
  refine AllReadyH.cons (i := 1) rfl (fun K hK => ?_) AllReadyH.nil
  go_simp
  refine Calls.mono (CP.out _ hHeld.1) ?_
  rintro e w2 ⟨rfl, hb2⟩
  have hx2 := Ex.trans (And.left hHeld) hb2
  clear hHeld CP
  cases R with
  | false =>
    simp only [errV, Bool.false_eq_true, if_false]
    go_wp2_with fail
    refine hK.out _ _ ?_ (fun hHeld => ?_)
    · exact KS.out _ hx2
    clear hK
    (try simp only [Act.put, List.setIfInBounds_toArray, List.set_cons_zero, List.set_cons_succ])
    refine wpAnyH_ready (rs := [3]) (by kernel_rfl) (by simp) ?_
    refine AllReadyH.cons (i := 3) rfl (fun K hK => ?_) AllReadyH.nil
    go_simp
    refine (is_same ea _).mono ?_
    rintro e w3 ⟨rfl, hb3⟩
    have hx3 := Ex.trans (And.left hHeld) hb3
    clear hHeld
    go_wp2_with fail
    refine hK.out _ _ ?_ (fun hHeld => ?_)
    · exact KS.out _ hx3
    clear hK
    (try simp only [Act.put, List.setIfInBounds_toArray, List.set_cons_zero, List.set_cons_succ])
    refine wpAnyH_take (i := 4) (v := ?_) rfl (by kernel_rfl) (by kernel_rfl) (by kernel_rfl) (fun _ _ _ h => h) (Or.inl ⟨by rfl, ?_⟩) (by assumption) ?_
    rotate_left
    · (intro w' hSw; (try dsimp only at hSw); go_simp) <;> with_reducible rfl
    change wpAnyH Tryd.prog _ _ _ _ _ _ (Act.put _ (some 7) _) _
    (try simp only [Act.put, List.setIfInBounds_toArray, List.set_cons_zero, List.set_cons_succ])
    refine wpAnyH_take (i := 5) (v := ?_) rfl (by kernel_rfl) (by kernel_rfl) (by kernel_rfl) (fun _ _ _ h => h) (Or.inl ⟨by rfl, ?_⟩) (by assumption) ?_
    rotate_left
    · (intro w' hSw; (try dsimp only at hSw); go_simp) <;> with_reducible rfl
    change wpAnyH Tryd.prog _ _ _ _ _ _ (Act.put _ (some 2) _) _
    (try simp only [Act.put, List.setIfInBounds_toArray, List.set_cons_zero, List.set_cons_succ])
    refine wpAnyH_done (by kernel_rfl) ?_ _
    go_wp2_with fail
    go_ret
    exact ⟨rfl, hHeld.1⟩
  | true =>
    simp only [errV, if_true]
    go_wp2_with fail
    refine hK.out _ _ ?_ (fun hHeld => ?_)
    · exact KS.out _ hx2
    clear hK
    (try simp only [Act.put, List.setIfInBounds_toArray, List.set_cons_zero, List.set_cons_succ])
    refine wpAnyH_ready (rs := [3]) (by kernel_rfl) (by simp) ?_
    refine AllReadyH.cons (i := 3) rfl (fun K hK => ?_) AllReadyH.nil
    go_simp
    refine (is_nil ea _).mono ?_
    rintro e w3 ⟨rfl, hb3⟩
    have hx3 := Ex.trans (And.left hHeld) hb3
    clear hHeld
    go_wp2_with fail
    refine hK.out _ _ ?_ (fun hHeld => ?_)
    · exact KS.out _ hx3
    clear hK
    (try simp only [Act.put, List.setIfInBounds_toArray, List.set_cons_zero, List.set_cons_succ])
    refine wpAnyH_take (i := 4) (v := ?_) rfl (by kernel_rfl) (by kernel_rfl) (by kernel_rfl) (fun _ _ _ h => h) (Or.inl ⟨by rfl, ?_⟩) (by assumption) ?_
    rotate_left
    · (intro w' hSw; (try dsimp only at hSw); go_simp) <;> with_reducible rfl
    change wpAnyH Tryd.prog _ _ _ _ _ _ (Act.put _ (some 7) _) _
    (try simp only [Act.put, List.setIfInBounds_toArray, List.set_cons_zero, List.set_cons_succ])
    refine wpAnyH_take (i := 5) (v := ?_) rfl (by kernel_rfl) (by kernel_rfl) (by kernel_rfl) (fun _ _ _ h => h) (Or.inl ⟨by rfl, ?_⟩) (by assumption) ?_
    rotate_left
    · (intro w' hSw; (try dsimp only at hSw); go_simp) <;> with_reducible rfl
    change wpAnyH Tryd.prog _ _ _ _ _ _ (Act.put _ (some 2) _) _
    (try simp only [Act.put, List.setIfInBounds_toArray, List.set_cons_zero, List.set_cons_succ])
    refine wpAnyH_done (by kernel_rfl) ?_ _
    go_wp2_with fail
    go_ret
    exact ⟨rfl, hHeld.1⟩

end Go.Proofs.YtgpdnoghlommeaaDoor

namespace Go.Proofs.YtgpdnoghlommeaaDoor

open Go.RowKit Go.Deep

attribute [local go_sem ↓] Go.wp_at_zero Go.wp_at_succ

theorem wrapN {x : Int} (h0 : 0 ≤ x) (h1 : x ≤ 9223372036854775807) : IntKind.i64.wrap x = x := (IntWalk.i64_left x).trans (IntWalk.wrap64_in x (by omega))
def NumP (n : Nat) (w : World) (e : Ending) (w' : World) : Prop := e = .returned (.int .i64 (n : Int)) ∧ Ex w w'

set_option maxRecDepth 100000 in
set_option maxHeartbeats 4000000 in
theorem l22Size_any : ∀ (d : Nat) (b : BD) (ba : Option Addr) (bc : Nat) (za : Option Addr) (zl zc : Nat) (w : World), bdep b < d → bN b ≤ 1048576 → BA w 0 b ba →
    Calls Tryd.prog 11 #[.agg #[.slice ba (blen b) bc, .slice za zl zc]] w (NumP (bN b) w)
  | 0, _, _, _, _, _, _, _, h, _, _ => by omega
  | d + 1, b, ba, bc, za, zl, zc, w, hd, hn, hB => by
    have B : Hid (∀ w', Ex w w' → BA w' 0 b ba) := fun _ h => BA_below hB h
    have N : Hid (Ex w (w.alloc (.cells #[.slice ba (blen b) bc, .slice za (zl : Nat) zc] 42))) := Ex.new _ _
    have C : Hid (∀ w', Ex (w.alloc (.cells #[.slice ba (blen b) bc, .slice za (zl : Nat) zc] 42)) w' → w'.cell? ⟨w.heap.size, 0, none⟩ = some (.slice ba (blen b) bc)) := fun w' h => h.at (by simp)
    have I : Hid (∀ j, j < blen b → ∀ (a4 : Option Addr) (k4 : Nat) (a5 : Option Addr) (n5 k5 : Nat) (w' : World), (BA w' 0 (bthen b j) a4 → Calls Tryd.prog 11 #[.agg #[.slice a4 (blen (bthen b j)) k4, .slice a5 n5 k5]] w' (NumP (bN (bthen b j)) w')) ∧ (BA w' 0 (belse b j) a4 → Calls Tryd.prog 11 #[.agg #[.slice a4 (blen (belse b j)) k4, .slice a5 n5 k5]] w' (NumP (bN (belse b j)) w'))) := fun j hj a4 k4 a5 n5 k5 w' => by
      have h1 := bdep_kid b j hj
      have h2 := bN_sum b
      have h3 := sumN_up (bNk b) (j + 1) (blen b) hj
      rw [sumN, bNk] at h3
      exact ⟨fun h => l22Size_any d _ a4 k4 a5 n5 k5 w' (by omega) (by omega) h, fun h => l22Size_any d _ a4 k4 a5 n5 k5 w' (by omega) (by omega) h⟩
    have SM : Hid (∀ j, j ≤ blen b → blen b + sumN (bNk b) j ≤ 1048576) := fun j hj => by
      have h2 := bN_sum b
      have h3 := sumN_up (bNk b) j (blen b) hj
      omega
    obtain ⟨R, hR⟩ : ∃ R, R = bN b := ⟨_, rfl⟩
    have RR : Hid (R = blen b + sumN (bNk b) (blen b)) := hR.trans (bN_sum b)
    rw [← hR]
    have c0 := C.out _ (Ex.refl _)
    have hb0 : blen b ≤ 1048576 := SM.out 0 (by omega)
    clear hB hd hn hR
    go_enter Tryd.func11, Tryd.ntmps11
    go_wp2_with fail
    clear c0
    go_loopw [3, 4] (fun n i wr => ∃ (j m : Nat), j ≤ blen b ∧ i = .int .i64 j ∧ n = .int .i64 (m : Int) ∧ m = blen b + sumN (bNk b) j ∧ Ex (w.alloc (.cells #[.slice ba (blen b) bc, .slice za (zl : Nat) zc] 42)) wr) (fun _ i _ => blen b - (intOf i).toNat)
    case atStart => exact ⟨0, blen b, Nat.zero_le _, rfl, rfl, by simp [sumN], Ex.refl _⟩
    case round =>
      obtain ⟨j, m, hj, rfl, rfl, hm, hx⟩ := hrel
      have HM : Hid (m = blen b + sumN (bNk b) j) := hm
      have E : Hid (Ex (w.alloc (.cells #[.slice ba (blen b) bc, .slice za (zl : Nat) zc] 42)) wr) := hx
      have c0 := C.out wr hx
      clear hm hx
      by_cases hlt : j < blen b
      · obtain ⟨bb, o, rfl, _, hbs, hk⟩ := BA_at (B.out wr (N.out.trans E.out)) (by omega)
        obtain ⟨b0, ⟨a1, k1, b1, hnc, x1⟩, b2, ⟨a3, k3, b3, x3⟩, ⟨a4, k4, b4, x4⟩, ⟨a5, k5, b5, x5⟩, ⟨a6, k6, b6, x6⟩, ⟨a7, k7, b7, x7⟩⟩ := hk j hlt
        have IT : Hid (∀ w', Ex wr w' → Calls Tryd.prog 11 #[.agg #[.slice a4 (blen (bthen b j)) k4, .slice a5 (tlen (btsay b j)) k5]] w' (NumP (bN (bthen b j)) w')) := fun w' h => (I.out j hlt a4 k4 a5 _ k5 w').1 (BA_below x4 h)
        have IE : Hid (∀ w', Ex wr w' → Calls Tryd.prog 11 #[.agg #[.slice a6 (blen (belse b j)) k6, .slice a7 (tlen (besay b j)) k7]] w' (NumP (bN (belse b j)) w')) := fun w' h => (I.out j hlt a6 k6 a7 _ k7 w').2 (BA_below x6 h)
        obtain ⟨x, hxx⟩ : ∃ x, bN (bthen b j) = x := ⟨_, rfl⟩
        obtain ⟨y, hyy⟩ : ∃ y, bN (belse b j) = y := ⟨_, rfl⟩
        have HN : Hid (m + x + y = blen b + sumN (bNk b) (j + 1)) := by
          show _ = _
          rw [sumN, bNk, hxx, hyy, HM.out]; omega
        have hle : m + x + y ≤ 1048576 := by rw [HN.out]; exact SM.out (j + 1) hlt
        rw [hxx] at IT
        rw [hyy] at IE
        clear hxx hyy hk hnc x1 x3 x4 x5 x6 x7
        have KS : Hid (∀ w', Ex wr w' → (Ex wr w' ∧ w'.cell? ⟨w.heap.size, 0, none⟩ = some (.slice (some ⟨bb, o, none⟩) (blen b) bc) ∧ w'.cell? ⟨bb, o + j * 8 + 4, none⟩ = some (.slice a4 (blen (bthen b j)) k4) ∧ w'.cell? ⟨bb, o + j * 8 + 5, none⟩ = some (.slice a5 (tlen (btsay b j)) k5) ∧ w'.cell? ⟨bb, o + j * 8 + 6, none⟩ = some (.slice a6 (blen (belse b j)) k6) ∧ w'.cell? ⟨bb, o + j * 8 + 7, none⟩ = some (.slice a7 (tlen (besay b j)) k7))) := fun w' h => ⟨h, (C.out w' (E.out.trans h)), h.at b4, h.at b5, h.at b6, h.at b7⟩
        go_wp2_with fail
        clear b0 b1 b2 b3 b4 b5 b6 b7 c0
        go_region_held3 (fun w' => Ex wr w' ∧ w'.cell? ⟨w.heap.size, 0, none⟩ = some (.slice (some ⟨bb, o, none⟩) (blen b) bc) ∧ w'.cell? ⟨bb, o + j * 8 + 4, none⟩ = some (.slice a4 (blen (bthen b j)) k4) ∧ w'.cell? ⟨bb, o + j * 8 + 5, none⟩ = some (.slice a5 (tlen (btsay b j)) k5) ∧ w'.cell? ⟨bb, o + j * 8 + 6, none⟩ = some (.slice a6 (blen (belse b j)) k6) ∧ w'.cell? ⟨bb, o + j * 8 + 7, none⟩ = some (.slice a7 (tlen (besay b j)) k7)) ((refine KS.out _ ?_; first | exact (Ex.refl _).drew | exact (And.left ‹Ex _ _ ∧ _›) | exact Ex.trans (And.left ‹Ex _ _ ∧ _›) ‹Ex _ _›)) (first | (go_at_call_of 11 (Value.slice a4 (blen (bthen b j)) k4); refine Calls.mono (IT.out _ (And.left ‹Ex _ _ ∧ _›)) ?_; rintro e w1 ⟨rfl, hb0⟩) | (go_at_call_of 11 (Value.slice a6 (blen (belse b j)) k6); refine Calls.mono (IE.out _ (And.left ‹Ex _ _ ∧ _›)) ?_; rintro e w2 ⟨rfl, hb1⟩))
        go_wp2_with fail
        go_roundw
        case rel => exact ⟨j + 1, m + x + y, by omega, by go_num, by refine congrArg _ ?_; rw [wrapN (x := (m : Int) + x) (by omega) (by omega), wrapN (by omega) (by omega)]; omega, HN.out, E.out.trans (And.left ‹Ex _ _ ∧ _›)⟩
        case measure => simp [intOf]; omega
      · have HR : Hid (m = R) := by
          have e : j = blen b := by omega
          show _ = _
          rw [HM.out, RR.out, e]
        have XR : Hid (Ex w wr) := N.out.trans E.out
        go_wp2_with fail
        go_ret
        exact ⟨by rw [HR.out]; rfl, XR.out⟩

set_option maxRecDepth 100000 in
set_option maxHeartbeats 4000000 in
theorem bindsIn_any : ∀ (d : Nat) (b : BD) (ba : Option Addr) (bc : Nat) (za : Option Addr) (zl zc : Nat) (w : World), bdep b < d → bN b ≤ 1048576 → BA w 0 b ba →
    Calls Tryd.prog 14 #[.agg #[.slice ba (blen b) bc, .slice za zl zc]] w (NumP (bN b) w)
  | 0, _, _, _, _, _, _, _, h, _, _ => by omega
  | d + 1, b, ba, bc, za, zl, zc, w, hd, hn, hB => by
    have B : Hid (∀ w', Ex w w' → BA w' 0 b ba) := fun _ h => BA_below hB h
    have N : Hid (Ex w (w.alloc (.cells #[.slice ba (blen b) bc, .slice za (zl : Nat) zc] 42))) := Ex.new _ _
    have C : Hid (∀ w', Ex (w.alloc (.cells #[.slice ba (blen b) bc, .slice za (zl : Nat) zc] 42)) w' → w'.cell? ⟨w.heap.size, 0, none⟩ = some (.slice ba (blen b) bc)) := fun w' h => h.at (by simp)
    have I : Hid (∀ j, j < blen b → ∀ (a4 : Option Addr) (k4 : Nat) (a5 : Option Addr) (n5 k5 : Nat) (w' : World), (BA w' 0 (bthen b j) a4 → Calls Tryd.prog 14 #[.agg #[.slice a4 (blen (bthen b j)) k4, .slice a5 n5 k5]] w' (NumP (bN (bthen b j)) w')) ∧ (BA w' 0 (belse b j) a4 → Calls Tryd.prog 14 #[.agg #[.slice a4 (blen (belse b j)) k4, .slice a5 n5 k5]] w' (NumP (bN (belse b j)) w'))) := fun j hj a4 k4 a5 n5 k5 w' => by
      have h1 := bdep_kid b j hj
      have h2 := bN_sum b
      have h3 := sumN_up (bNk b) (j + 1) (blen b) hj
      rw [sumN, bNk] at h3
      exact ⟨fun h => bindsIn_any d _ a4 k4 a5 n5 k5 w' (by omega) (by omega) h, fun h => bindsIn_any d _ a4 k4 a5 n5 k5 w' (by omega) (by omega) h⟩
    have SM : Hid (∀ j, j ≤ blen b → blen b + sumN (bNk b) j ≤ 1048576) := fun j hj => by
      have h2 := bN_sum b
      have h3 := sumN_up (bNk b) j (blen b) hj
      omega
    obtain ⟨R, hR⟩ : ∃ R, R = bN b := ⟨_, rfl⟩
    have RR : Hid (R = blen b + sumN (bNk b) (blen b)) := hR.trans (bN_sum b)
    rw [← hR]
    have c0 := C.out _ (Ex.refl _)
    have hb0 : blen b ≤ 1048576 := SM.out 0 (by omega)
    clear hB hd hn hR
    go_enter Tryd.func14, Tryd.ntmps14
    go_wp2_with fail
    clear c0
    go_loopw [3, 5, 12] (fun n _ i wr => ∃ (j m : Nat), j ≤ blen b ∧ i = .int .i64 j ∧ n = .int .i64 (m : Int) ∧ m = blen b + sumN (bNk b) j ∧ Ex (w.alloc (.cells #[.slice ba (blen b) bc, .slice za (zl : Nat) zc] 42)) wr) (fun _ _ i _ => blen b - (intOf i).toNat)
    case atStart => exact ⟨0, blen b, Nat.zero_le _, rfl, rfl, by simp [sumN], Ex.refl _⟩
    case round =>
      obtain ⟨j, m, hj, rfl, rfl, hm, hx⟩ := hrel
      have HM : Hid (m = blen b + sumN (bNk b) j) := hm
      have E : Hid (Ex (w.alloc (.cells #[.slice ba (blen b) bc, .slice za (zl : Nat) zc] 42)) wr) := hx
      have c0 := C.out wr hx
      clear hm hx
      by_cases hlt : j < blen b
      · obtain ⟨bb, o, rfl, _, hbs, hk⟩ := BA_at (B.out wr (N.out.trans E.out)) (by omega)
        obtain ⟨b0, ⟨a1, k1, b1, hnc, x1⟩, b2, ⟨a3, k3, b3, x3⟩, ⟨a4, k4, b4, x4⟩, ⟨a5, k5, b5, x5⟩, ⟨a6, k6, b6, x6⟩, ⟨a7, k7, b7, x7⟩⟩ := hk j hlt
        have IT : Hid (∀ w', Ex wr w' → Calls Tryd.prog 14 #[.agg #[.slice a4 (blen (bthen b j)) k4, .slice a5 (tlen (btsay b j)) k5]] w' (NumP (bN (bthen b j)) w')) := fun w' h => (I.out j hlt a4 k4 a5 _ k5 w').1 (BA_below x4 h)
        have IE : Hid (∀ w', Ex wr w' → Calls Tryd.prog 14 #[.agg #[.slice a6 (blen (belse b j)) k6, .slice a7 (tlen (besay b j)) k7]] w' (NumP (bN (belse b j)) w')) := fun w' h => (I.out j hlt a6 k6 a7 _ k7 w').2 (BA_below x6 h)
        obtain ⟨x, hxx⟩ : ∃ x, bN (bthen b j) = x := ⟨_, rfl⟩
        obtain ⟨y, hyy⟩ : ∃ y, bN (belse b j) = y := ⟨_, rfl⟩
        have HN : Hid (m + x + y = blen b + sumN (bNk b) (j + 1)) := by
          show _ = _
          rw [sumN, bNk, hxx, hyy, HM.out]; omega
        have hle : m + x + y ≤ 1048576 := by rw [HN.out]; exact SM.out (j + 1) hlt
        rw [hxx] at IT
        rw [hyy] at IE
        clear hxx hyy hk hnc x1 x3 x4 x5 x6 x7
        have CB : Hid (∀ w', Ex (wr.alloc (.cells #[(.int .i64 (bkind b j)), (.slice a1 (bnames b j).length k1), (.string (bfn b j)), (.slice a3 (tlen (bterms b j)) k3), (.slice a4 (blen (bthen b j)) k4), (.slice a5 (tlen (btsay b j)) k5), (.slice a6 (blen (belse b j)) k6), (.slice a7 (tlen (besay b j)) k7)] 55)) w' → w'.cell? ⟨wr.heap.size, 4, none⟩ = some (.slice a4 (blen (bthen b j)) k4) ∧ w'.cell? ⟨wr.heap.size, 5, none⟩ = some (.slice a5 (tlen (btsay b j)) k5) ∧ w'.cell? ⟨wr.heap.size, 6, none⟩ = some (.slice a6 (blen (belse b j)) k6) ∧ w'.cell? ⟨wr.heap.size, 7, none⟩ = some (.slice a7 (tlen (besay b j)) k7)) := fun w' h => by
          have hb := h.blk (show (wr.alloc (.cells #[(.int .i64 (bkind b j)), (.slice a1 (bnames b j).length k1), (.string (bfn b j)), (.slice a3 (tlen (bterms b j)) k3), (.slice a4 (blen (bthen b j)) k4), (.slice a5 (tlen (btsay b j)) k5), (.slice a6 (blen (belse b j)) k6), (.slice a7 (tlen (besay b j)) k7)] 55)).heap[wr.heap.size]? = some (.cells #[(.int .i64 (bkind b j)), (.slice a1 (bnames b j).length k1), (.string (bfn b j)), (.slice a3 (tlen (bterms b j)) k3), (.slice a4 (blen (bthen b j)) k4), (.slice a5 (tlen (btsay b j)) k5), (.slice a6 (blen (belse b j)) k6), (.slice a7 (tlen (besay b j)) k7)] 55 (0, 0)) from heap_alloc_new _ _)
          exact ⟨blk_cell hb 4, blk_cell hb 5, blk_cell hb 6, blk_cell hb 7⟩
        have EN : Hid (Ex wr (wr.alloc (.cells #[(.int .i64 (bkind b j)), (.slice a1 (bnames b j).length k1), (.string (bfn b j)), (.slice a3 (tlen (bterms b j)) k3), (.slice a4 (blen (bthen b j)) k4), (.slice a5 (tlen (btsay b j)) k5), (.slice a6 (blen (belse b j)) k6), (.slice a7 (tlen (besay b j)) k7)] 55))) := Ex.new _ _
        obtain ⟨W2, hW2⟩ : ∃ W2, W2 = wr.alloc (.cells #[(.int .i64 (bkind b j)), (.slice a1 (bnames b j).length k1), (.string (bfn b j)), (.slice a3 (tlen (bterms b j)) k3), (.slice a4 (blen (bthen b j)) k4), (.slice a5 (tlen (btsay b j)) k5), (.slice a6 (blen (belse b j)) k6), (.slice a7 (tlen (besay b j)) k7)] 55) := ⟨_, rfl⟩
        have HW2 : Hid (wr.alloc (.cells #[(.int .i64 (bkind b j)), (.slice a1 (bnames b j).length k1), (.string (bfn b j)), (.slice a3 (tlen (bterms b j)) k3), (.slice a4 (blen (bthen b j)) k4), (.slice a5 (tlen (btsay b j)) k5), (.slice a6 (blen (belse b j)) k6), (.slice a7 (tlen (besay b j)) k7)] 55) = W2) := hW2.symm
        have KS : Hid (∀ w', Ex W2 w' → (Ex W2 w' ∧ w'.cell? ⟨wr.heap.size, 4, none⟩ = some (.slice a4 (blen (bthen b j)) k4) ∧ w'.cell? ⟨wr.heap.size, 5, none⟩ = some (.slice a5 (tlen (btsay b j)) k5) ∧ w'.cell? ⟨wr.heap.size, 6, none⟩ = some (.slice a6 (blen (belse b j)) k6) ∧ w'.cell? ⟨wr.heap.size, 7, none⟩ = some (.slice a7 (tlen (besay b j)) k7))) := fun w' h => ⟨h, CB.out w' (hW2 ▸ h)⟩
        have E2 : Hid (Ex wr W2) := hW2 ▸ EN.out
        clear hW2 EN CB
        go_wp2_with fail
        rw [HW2.out]
        clear b0 b1 b2 b3 b4 b5 b6 b7 c0 HW2
        go_region_held3 (fun w' => Ex W2 w' ∧ w'.cell? ⟨wr.heap.size, 4, none⟩ = some (.slice a4 (blen (bthen b j)) k4) ∧ w'.cell? ⟨wr.heap.size, 5, none⟩ = some (.slice a5 (tlen (btsay b j)) k5) ∧ w'.cell? ⟨wr.heap.size, 6, none⟩ = some (.slice a6 (blen (belse b j)) k6) ∧ w'.cell? ⟨wr.heap.size, 7, none⟩ = some (.slice a7 (tlen (besay b j)) k7)) ((refine KS.out _ ?_; first | exact (Ex.refl _).drew | exact (And.left ‹Ex _ _ ∧ _›) | exact Ex.trans (And.left ‹Ex _ _ ∧ _›) ‹Ex _ _›)) (first | (go_at_call_of 14 (Value.slice a4 (blen (bthen b j)) k4); refine Calls.mono (IT.out _ (E2.out.trans (And.left ‹Ex _ _ ∧ _›))) ?_; rintro e w1 ⟨rfl, hb0⟩) | (go_at_call_of 14 (Value.slice a6 (blen (belse b j)) k6); refine Calls.mono (IE.out _ (E2.out.trans (And.left ‹Ex _ _ ∧ _›))) ?_; rintro e w2 ⟨rfl, hb1⟩))
        go_wp2_with fail
        go_roundw
        case rel => exact ⟨j + 1, m + x + y, by omega, by go_num, by refine congrArg _ ?_; rw [wrapN (x := (x : Int) + y) (by omega) (by omega), wrapN (by omega) (by omega)]; omega, HN.out, E.out.trans (E2.out.trans (And.left ‹Ex _ _ ∧ _›))⟩
        case measure => simp [intOf]; omega
      · have HR : Hid (m = R) := by
          have e : j = blen b := by omega
          show _ = _
          rw [HM.out, RR.out, e]
        have XR : Hid (Ex w wr) := N.out.trans E.out
        go_wp2_with fail
        go_ret
        exact ⟨by rw [HR.out]; rfl, XR.out⟩

end Go.Proofs.YtgpdnoghlommeaaDoor
