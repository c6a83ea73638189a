/- Walks: the program's bodies that are ok. -/
import Derived.Test.YtpibamhkmmgooaaGreatDoorIM7

import Derived.Test.YtpibamhkmmgooaaGreatDoorBD5

import Derived.Test.YtpibamhkmmgooaaGreatDoorSZ2

import Derived.Test.YtpibamhkmmgooaaGreatDoorTO2

import Derived.Shelf.SlMaps.Clone

import Derived.Deep.RegionWith

import Derived.Deep.CutRange

namespace Go.Proofs

open Go.Shelf
def Tryz.cloneC_ren : Go.Shelf.Ren := ⟨fun | 5 => 72 | 7 => 79 | n => n, fun | 23 => 123 | 25 => 9 | 3 => 3 | 4 => 4 | 20 => 20 | n => n, fun | n => n⟩
theorem Tryz.cloneC : Go.Proofs.SlLaysW.n5 Tryz.prog Tryz.cloneC_ren := {
  mixed := by kernel_rfl
  f5 := ⟨Tryz.f72.name, by decide, Tryz.func72.trans (congrArg some (by kernel_rfl))⟩
  f7 := Tryz.func79.trans (congrArg some (by kernel_rfl))
  t4 := Tryz.underlying4
  a4 := Tryz.isAgg4
  z4 := Tryz.sizeOf4
  v4 := Tryz.zeroValue4
  t20 := Tryz.underlying20
  a20 := Tryz.isAgg20
  z20 := Tryz.sizeOf20
  v20 := Tryz.zeroValue20
  t23 := Tryz.underlying123
  a23 := Tryz.isAgg123
  z23 := Tryz.sizeOf123
  v23 := Tryz.zeroValue123 }
end Go.Proofs

namespace Go.Proofs.YtpibamhkmmgooaaGreatDoor

open Go.RowKit Go.Deep Go.Maps Go.WideMaps

attribute [local go_sem ↓] Go.wp_at_zero Go.wp_at_succ

theorem clone_any (w : World) (mb n : Nat) (ns : List ByteArray) (hC : CM w mb n ns) :
    Calls Tryz.prog 72 #[.map (some mb)] w fun e w' => ∃ mb', e = .returned (.map (some mb')) ∧ CM w' mb' n ns ∧ w.heap.size ≤ mb' ∧ Ex w w' := by
  obtain ⟨D, h1, h2⟩ := hC
  have hcon := AnyW.maps_Clone_owns Tryz.cloneC 9 (plainElem Tryz.prog 3) mb n D w h1
  change Calls Tryz.prog 72 _ _ _ at hcon
  exact hcon.mono fun e w' ⟨he, ho, _, hb⟩ => ⟨_, he, ⟨D, ho, h2⟩, Nat.le_refl _, hb⟩

theorem BS_at {w : World} {S : Nat → Prop} {f : BD} {a : Option Addr} (h : BS w S f a) (h0 : 0 < blen f) : ∃ b o, a = some ⟨b, o, none⟩ ∧ S b ∧ b < w.heap.size ∧ ∀ i, i < blen f → BT8 w S f i b (o + i * 8) := by
  rcases h with h | ⟨b, o, e, hb, ht⟩
  · omega
  · exact ⟨b, o, e, hb, World.block_lt_of_cell? _ _ (BC_cell ht 0 h0).1, fun i hi => BC_cell ht i hi⟩

set_option maxRecDepth 100000 in
set_option maxHeartbeats 4000000 in
theorem body_any (ea : Addr) (fs : List PM) (la : Option Addr) (lc : Nat) (hl : fs.length ≤ 1000000000) (h60 : ∀ s, (arityR fs s).1 ≤ 60) : ∀ (d mb : Nat) (ns : List ByteArray) (b : BD) (ba : Option Addr) (bc : Nat) (z : TM) (za : Option Addr) (zc : Nat) (w : World), d ≤ 6 → ns.length + 25000 * d ≤ 200000 → blen b ≤ 1000000000 → BSm b → BLm b → tlen z ≤ 1000000000 → TSm z → TLm z →
    w.cell? ⟨0, 0, none⟩ = some (EV ea) → CM w mb ns.length ns → QA w 0 fs la → BA w 0 b ba → MA w 0 z za →
    Calls Tryz.prog 63 #[.agg #[.slice la fs.length lc, .map (some mb)], .agg #[.slice ba (blen b) bc, .slice za (tlen z) zc], .int .i64 d] w (ErrP ea (bodyB fs d ns b z) w) := by
  intro d
  induction d with
  | zero =>
    intro mb ns b ba bc z za zc w _ _ _ _ _ _ _ _ hG _ _ _ _
    have g0 : ((w.alloc (.cells #[.slice la fs.length lc, .map (some mb)] 125)).alloc (.cells #[.slice ba (blen b) bc, .slice za (tlen z) zc] 41)).cell? ⟨0, 0, none⟩ = some (EV ea) := ((Ex.new _ _).alloc _).at hG
    go_enter Tryz.func63, Tryz.ntmps63
    go_wp2_with fail
    go_ret
    exact ⟨rfl, (Ex.new _ _).alloc _⟩
  | succ d ih =>
    intro mb ns b ba bc z za zc w hd hns hbl hsm hlm hzl hzm hzk hG hC hQ hB hM
    have G : Hid (∀ w', Ex w w' → w'.cell? ⟨0, 0, none⟩ = some (EV ea)) := fun w' h => h.at hG
    have Q : Hid (∀ w', Ex w w' → QA w' 0 fs la) := fun _ h => QA_below hQ h
    have B : Hid (∀ w', Ex w w' → BS w' (fun bl => bl < w.heap.size) b ba) := fun _ h => BS_ks (BS_mono hB fun _ h1 _ => h1) fun k hk _ => h.block k hk
    have M : Hid (∀ w', Ex w w' → MA w' 0 z za) := fun _ h => MA_below hM h
    have SM : Hid (BSm b) := hsm
    have LM : Hid (BLm b) := hlm
    have I : Hid _ := ih
    have H60 : Hid _ := h60
    have N : Hid (Ex w ((w.alloc (.cells #[.slice la fs.length lc, .map (some mb)] 125)).alloc (.cells #[.slice ba (blen b) bc, .slice za (tlen z) zc] 41))) := (Ex.new _ _).alloc _
    have C : Hid (∀ w', Ex ((w.alloc (.cells #[.slice la fs.length lc, .map (some mb)] 125)).alloc (.cells #[.slice ba (blen b) bc, .slice za (tlen z) zc] 41)) w' → w'.cell? ⟨w.heap.size, 0, none⟩ = some (.slice la fs.length lc) ∧ w'.cell? ⟨w.heap.size, 1, none⟩ = some (.map (some mb)) ∧ w'.cell? ⟨w.heap.size + 1, 0, none⟩ = some (.slice ba (blen b) bc) ∧ w'.cell? ⟨w.heap.size + 1, 1, none⟩ = some (.slice za (tlen z) zc)) := fun w' h => ⟨h.at (by simp), h.at (by simp), h.at (by simp), h.at (by simp)⟩
    obtain ⟨R, hR⟩ : ∃ R, R = bodyB fs (d + 1) ns b z := ⟨_, rfl⟩
    have RR : Hid (R = bodyB fs (d + 1) ns b z) := hR
    rw [← hR]
    obtain ⟨D, hD⟩ : ∃ D : Int, D = ((d + 1 : Nat) : Int) := ⟨_, rfl⟩
    have HD : Hid (D = ((d + 1 : Nat) : Int)) := hD
    rw [← hD]
    have d0 : (D == 0) = false := by rw [beq_eq_false_iff_ne]; omega
    have CL : Hid (∀ w', Ex w w' → Calls Tryz.prog 72 #[.map (some mb)] w' fun e w'' => ∃ mb', e = .returned (.map (some mb')) ∧ CM w'' mb' ns.length ns ∧ w'.heap.size ≤ mb' ∧ Ex w' w'') := fun w' h => clone_any w' mb ns.length ns (hC.ex h)
    have ZK : Hid (TSm z ∧ TLm z) := ⟨hzm, hzk⟩
    have g0 := ((Ex.new _ _).alloc _ : Ex w ((w.alloc (.cells #[.slice la fs.length lc, .map (some mb)] 125)).alloc (.cells #[.slice ba (blen b) bc, .slice za (tlen z) zc] 41))).at hG
    clear hG hC hQ hB hM hR hD hsm hlm ih hzm hzk h60
    by_cases h4 : 400 < blen b
    · have HR : Hid (R = false) := RR.out.trans (bodyB_len h4)
      have e1 : decide ((400 : Int) < (blen b : Int)) = true := decide_eq_true (by omega)
      go_enter Tryz.func63, Tryz.ntmps63
      go_wp2_with fail
      go_ret
      exact ⟨by rw [HR.out]; rfl, N.out⟩
    have e1 : decide ((400 : Int) < (blen b : Int)) = false := decide_eq_false (by omega)
    by_cases h6 : 60 < tlen z
    · have HR : Hid (R = false) := by
        show R = false
        rw [RR.out]
        show (decide (blen b ≤ 400) && (_ && termsB (nsAt ns b (blen b)) z)) = false
        rw [termsB_len h6]; simp
      have e2 : decide ((60 : Int) < (tlen z : Int)) = true := decide_eq_true (by omega)
      go_enter Tryz.func63, Tryz.ntmps63
      go_wp2_with fail
      go_ret
      exact ⟨by rw [HR.out]; rfl, N.out⟩
    have e2 : decide ((60 : Int) < (tlen z : Int)) = false := decide_eq_false (by omega)
    obtain ⟨V, hV⟩ : ∃ V, V = (w.alloc (.cells #[.slice la fs.length lc, .map (some mb)] 125)).alloc (.cells #[.slice ba (blen b) bc, .slice za (tlen z) zc] 41) := ⟨_, rfl⟩
    have HV : Hid (V = (w.alloc (.cells #[.slice la fs.length lc, .map (some mb)] 125)).alloc (.cells #[.slice ba (blen b) bc, .slice za (tlen z) zc] 41)) := hV
    rw [← hV] at N C
    have zV : V.heap.size = w.heap.size + 2 := by rw [hV]; simp only [World.size_alloc]
    have ZV : Hid (V.heap.size = w.heap.size + 2) := zV
    obtain ⟨c0, c1, c2, c3⟩ := C.out V (Ex.refl _)
    clear hV zV
    go_enter Tryz.func63, Tryz.ntmps63
    go_upto_region 3 with fail
    rw [← HV.out]
    clear HV g0
    have y0 : w.heap.size < V.heap.size := by have := ZV.out; omega
    go_cut [7] from 26 to 31 (fun p7 wx => ∃ ib mi, p7 = .pointer (some ⟨ib, 0, none⟩) ∧ wx.cell? ⟨ib, 0, none⟩ = some (.slice la fs.length lc) ∧ wx.cell? ⟨ib, 1, none⟩ = some (.map (some mi)) ∧ CM wx mi ns.length ns ∧ V.heap.size ≤ mi ∧ Ex V wx)
    case first =>
      go_region_with (first | (go_at_call 72; refine (CL.out _ (N.out.trans (by first | exact (Ex.refl _).drew | exact (Ex.refl _).drew.alloc _))).mono ?_; rintro e w5 ⟨m5, rfl, hC5, hm5, hb5⟩; have xb : Ex V w5 := (by refine Ex.trans ?_ hb5; first | exact (Ex.refl _).drew | exact (Ex.refl _).drew.alloc _); have q0 := xb.at c0; have q1 := xb.at c1; have z5 : w.heap.size < w5.heap.size := (World.block_lt_of_cell? _ _ q0); have hm6 : V.heap.size ≤ m5 := (by refine Nat.le_trans ?_ hm5; first | exact Nat.le_refl _ | exact Below.size (Ex.alloc (Ex.drew (Ex.refl V)) _) | exact Below.size (Ex.drew (Ex.alloc (Ex.refl V) _))); first | (have ob : w5.heap[V.heap.size]? = some (.cells #[.slice none 0 0, .map none] 125 (0, 0)) := hb5.blk (heap_alloc_at _ _ rfl); have oc0 : w5.cell? ⟨V.heap.size, 0, none⟩ = some (.slice none 0 0) := blk_cell ob 0; have oc1 : w5.cell? ⟨V.heap.size, 1, none⟩ = some (.map none) := blk_cell ob 1; have of0 := blk_free ob 0; have of1 := blk_free ob 1) | skip))
      all_goals
        go_wp2_with fail
        go_meet
        first
          | exact ⟨V.heap.size, m5, rfl, blk_cell (blk_set (blk_set ob (.slice la fs.length lc)) (.map (some m5))) 0, blk_cell (blk_set (blk_set ob (.slice la fs.length lc)) (.map (some m5))) 1, (hC5.blk (Below.heap_setCell _ ⟨V.heap.size, 0, none⟩ _ _ (fun e => hC5.ne oc0 e.symm))).blk (Below.heap_setCell _ ⟨V.heap.size, 1, none⟩ _ _ (fun e => hC5.ne oc0 e.symm)), hm6, (xb.set (Nat.le_refl _) _).set (Nat.le_refl _) _⟩
          | exact ⟨w5.heap.size, m5, rfl, World.cell?_alloc_new _ _ _ _, World.cell?_alloc_new _ _ _ _, hC5.ex (Ex.new _ _), hm6, xb.alloc _⟩
    case rest =>
      rename World => W2
      obtain ⟨ib, mi, rfl, i0, i1, hCi, hmi, hxi⟩ := hcut
      have X2 : Hid (Ex V W2) := hxi
      have CI : Hid (∀ w', Fr mi W2 w' → w'.cell? ⟨ib, 0, none⟩ = some (.slice la fs.length lc) ∧ w'.cell? ⟨ib, 1, none⟩ = some (.map (some mi))) := fun w' h => ⟨h.at (hCi.ne i0) i0, h.at (hCi.ne i1) i1⟩
      have EX : Hid (∀ w', Fr mi W2 w' → Ex V w') := fun w' h => h.to_ex hxi hmi
      have C2 : Hid (CM W2 mi ns.length ns) := hCi
      have ZM : Hid (V.heap.size ≤ mi) := hmi
      clear c0 c1 c2 c3 hxi i0 i1
      obtain ⟨c0, c1, c2, c3⟩ := C.out W2 X2.out
      clear hCi hmi CL
      go_wp2_with fail
      clear c0 c1 c2 c3
      go_loopw [9, 10, 35] (fun _ _ i wr => ∃ (j : Nat), j ≤ blen b ∧ i = .int .i64 j ∧ (∀ k, k < j → bindAt fs (bodyB fs d) ns b k = true) ∧ CM wr mi (nsAt ns b j).length (nsAt ns b j) ∧ Fr mi W2 wr) (fun _ _ i _ => blen b - (intOf i).toNat)
      case atStart => exact ⟨0, by omega, rfl, fun j hj => by omega, C2.out, Fr.refl _ _⟩
      case round =>
        obtain ⟨j, hj, rfl, hall, hcm, hf⟩ := hrel
        have A : Hid (∀ k, k < j → bindAt fs (bodyB fs d) ns b k = true) := hall
        have F : Hid (Fr mi W2 wr) := hf
        have E : Hid (Ex V wr) := EX.out wr hf
        have CJ : Hid (CM wr mi (nsAt ns b j).length (nsAt ns b j)) := hcm
        obtain ⟨i0, i1⟩ := CI.out wr hf
        obtain ⟨c0, c1, c2, c3⟩ := C.out wr E.out
        have g0 := G.out wr (N.out.trans E.out)
        have hlen : (nsAt ns b j).length ≤ ns.length + 60 * j := nsAt_len j fun i hi => bind_names (A.out i hi)
        have zi : ib < wr.heap.size := World.block_lt_of_cell? _ _ i0
        clear hall hcm hf
        by_cases hlt : j < blen b
        · obtain ⟨bb, o, rfl, _, hbs, hk⟩ := BS_at (B.out wr (N.out.trans E.out)) (by omega)
          obtain ⟨b0, ⟨a1, k1, b1, hnc, x1⟩, b2, ⟨a3, k3, b3, x3⟩, ⟨a4, k4, b4, x4⟩, ⟨a5, k5, b5, x5⟩, ⟨a6, k6, b6, x6⟩, ⟨a7, k7, b7, x7⟩⟩ := hk j hlt
          obtain ⟨s1, s2, s3, s4, s5, s6, s7, s8⟩ := BSm_at SM.out j hlt
          obtain ⟨t1, t2, t3⟩ := BSm_terms SM.out j hlt
          obtain ⟨l1, l2, l3, l4, l5, l6, l7, l8, l9, la', lb', lc', ld'⟩ := BLm_at LM.out j hlt
          have HI : Hid (∀ w', Ex wr w' → Calls Tryz.prog 73 #[.agg #[.slice la fs.length lc, .map (some mi)], .agg #[.int .i64 (bkind b j), .slice a1 (bnames b j).length k1, .string (bfn b j), .slice a3 (tlen (bterms b j)) k3, .slice a4 (blen (bthen b j)) k4, .slice a5 (tlen (btsay b j)) k5, .slice a6 (blen (belse b j)) k6, .slice a7 (tlen (besay b j)) k7], .int .i64 D] w' (BindingP ea mi (nsAt ns b j) (bnames b j) (bindAt fs (bodyB fs d) ns b j) w')) := fun w' h => by
            have e1 : Ex w w' := N.out.trans (E.out.trans h)
            have ks : ∀ w2, Ex wr w2 → Ks (fun bl => bl < w.heap.size) wr w2 := fun w2 h2 k hk hk2 => h2.block k hk2
            have := binding_by ea fs la lc mi (bkind b j) (bnames b j) a1 k1 (bfn b j) (bterms b j) a3 k3 (bthen b j) a4 k4 (btsay b j) a5 k5 (belse b j) a6 k6 (besay b j) a7 k7 hl (nsAt ns b j) (by omega) d (by omega) (bodyB fs d) w' (G.out w' e1) (CJ.out.ex h) (Q.out w' e1)
              (fun w2 h2 => XS_mono (XS_ks x1 fun k hk hk2 => (h2.block k (Nat.lt_of_lt_of_le hk2 h.size) (by have h3 := ZM.out; have h4 := ZV.out; have : k < w.heap.size := hk; omega)).trans (h.block k hk2)) fun _ _ _ => Nat.zero_le _) l2 (MS_mono (MS_ks x3 (ks w' h)) fun _ _ _ => Nat.zero_le _) s2 t1 l5 (H60.out _)
              (fun w2 h2 => I.out mi _ _ _ _ _ _ _ w2 (by omega) (by omega) s3 s4 l7 s5 t2 l9 (G.out w2 (e1.trans h2)) (CJ.out.ex (h.trans h2)) (Q.out w2 (e1.trans h2)) (BS_mono (BS_ks x4 (ks w2 (h.trans h2))) fun _ _ _ => Nat.zero_le _) (MS_mono (MS_ks x5 (ks w2 (h.trans h2))) fun _ _ _ => Nat.zero_le _))
              (fun w2 h2 => I.out mi _ _ _ _ _ _ _ w2 (by omega) (by omega) s6 s7 lb' s8 t3 ld' (G.out w2 (e1.trans h2)) (CJ.out.ex (h.trans h2)) (Q.out w2 (e1.trans h2)) (BS_mono (BS_ks x6 (ks w2 (h.trans h2))) fun _ _ _ => Nat.zero_le _) (MS_mono (MS_ks x7 (ks w2 (h.trans h2))) fun _ _ _ => Nat.zero_le _))
            rw [← HD.out] at this
            exact this
          have U : Hid (bindAt fs (bodyB fs d) ns b j = true → ∀ k, k < j + 1 → bindAt fs (bodyB fs d) ns b k = true) := fun h => upto_succ A.out h
          have V1 : Hid (bindAt fs (bodyB fs d) ns b j = false → R = false) := fun h => RR.out.trans (bodyB_no hlt h)
          clear hk x1 x3 x4 x5 x6 x7 s1 s2 s3 s4 s5 s6 s7 s8 t1 t2 t3 l1 l2 l3 l4 l5 l6 l7 l8 l9 la' lb' lc' ld' c0 c1 c2 c3 g0 CJ
          go_wp2_with fail
          refine Calls.mono (HI.out _ (Ex.new _ _)) ?_
          rintro e w3 ⟨rfl, hf3, hc3⟩
          have F3 : Hid (Fr mi W2 w3) := F.out.trans ((Fr.of_ex (Ex.new _ _) _).trans hf3)
          have CN : Hid (bindAt fs (bodyB fs d) ns b j = true → CM w3 mi (nsAt ns b (j + 1)).length (nsAt ns b (j + 1))) := hc3
          clear hf3 hc3 HI b0 b1 b2 b3 b4 b5 b6 b7
          obtain ⟨r, hr⟩ : ∃ r, bindAt fs (bodyB fs d) ns b j = r := ⟨_, rfl⟩
          rw [hr] at U V1 CN ⊢
          clear hr
          cases r with
          | false =>
            have HR : Hid (R = false) := V1.out rfl
            clear U V1 CN
            simp only [errV, Bool.false_eq_true, if_false]
            go_wp2_with fail
            go_ret
            exact ⟨by rw [HR.out]; rfl, N.out.trans (EX.out _ F3.out)⟩
          | true =>
            have HU : Hid _ := U.out rfl
            have CE : Hid _ := CN.out rfl
            clear U V1 CN
            simp only [errV, if_true]
            go_wp2_with fail
            go_roundw
            case rel => exact ⟨j + 1, by omega, by go_num, HU.out, CE.out, F3.out⟩
            case measure => simp [intOf]; omega
        · have hje : j = blen b := by omega
          have HR : Hid (R = kidsB (nsAt ns b j) 8 z) := by
            show R = _
            rw [RR.out, bodyB_end (by omega) (fun i hi => A.out i (by omega)), hje]
            show (decide (tlen z ≤ 60) && kidsB (nsAt ns b (blen b)) 8 z) = _
            rw [decide_eq_true (show tlen z ≤ 60 by omega)]; rfl
          have LT : Hid (∀ w', Ex wr w' → Calls Tryz.prog 74 #[.agg #[.slice la fs.length lc, .map (some mi)], .slice za (tlen z) zc, .int .i64 8] w' (ErrP ea R w')) := fun w' h => by
            rw [HR.out]
            exact terms_any ea la fs.length lc mi (nsAt ns b j).length (nsAt ns b j) 8 z za zc w' (by omega) (G.out w' (N.out.trans (E.out.trans h))) (CJ.out.ex h) (M.out w' (N.out.trans (E.out.trans h))) (by omega) ZK.out.1 ZK.out.2
          clear hje
          go_wp2_with fail
          refine Calls.mono (LT.out _ (Ex.refl _)) ?_
          rintro e w3 ⟨rfl, hb3⟩
          go_wp2_with fail
          go_ret
          exact ⟨rfl, N.out.trans (E.out.trans hb3)⟩

end Go.Proofs.YtpibamhkmmgooaaGreatDoor
