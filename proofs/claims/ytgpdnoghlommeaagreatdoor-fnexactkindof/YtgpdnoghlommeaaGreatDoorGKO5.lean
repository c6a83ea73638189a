/- Walks: the program's bodies that are ok. Walks: of which types a body says what it says, by the specification. A call's text: another one for each function and each row of types. Types without what no one reads. Of which types functions say what they say: nothing but what is read. -/
import Derived.Test.YtgpdnoghlommeaaGreatDoorGIM7
import Derived.Test.YtgpdnoghlommeaaGreatDoorBD5
import Derived.Test.YtgpdnoghlommeaaGreatDoorGTO1
import Derived.Test.YtgpdnoghlommeaaGreatDoorTO2
import Derived.Shelf.SlMaps.Clone
import Derived.Deep.RegionWith
import Derived.Deep.CutRange
import Derived.Test.YtgpdnoghlommeaaGreatDoorSK3
import Derived.Deep.RegionLaw
import Derived.Test.YtgpdnoghlommeaaGreatDoorGKS1
import Derived.Test.YtgpdnoghlommeaaGreatDoorGTM2
import Derived.Test.YtgpdnoghlommeaaGreatDoorGD3
namespace Go.Proofs

open Go.Shelf
def Tryz.cloneC_ren : Go.Shelf.Ren := ⟨fun | 5 => 135 | 7 => 138 | n => n, fun | 23 => 169 | 25 => 9 | 3 => 3 | 4 => 4 | 20 => 20 | n => n, fun | n => n⟩
theorem Tryz.cloneC : Go.Proofs.SlLaysW.n5 Tryz.prog Tryz.cloneC_ren := {
  mixed := by kernel_rfl
  f5 := ⟨Tryz.f135.name, by decide, Tryz.func135.trans (congrArg some (by kernel_rfl))⟩
  f7 := Tryz.func138.trans (congrArg some (by kernel_rfl))
  t4 := Tryz.underlying4
  a4 := Tryz.isAgg4
  z4 := Tryz.sizeOf4
  v4 := Tryz.zeroValue4
  t20 := Tryz.underlying20
  a20 := Tryz.isAgg20
  z20 := Tryz.sizeOf20
  v20 := Tryz.zeroValue20
  t23 := Tryz.underlying169
  a23 := Tryz.isAgg169
  z23 := Tryz.sizeOf169
  v23 := Tryz.zeroValue169 }
end Go.Proofs

namespace Go.Proofs.YtgpdnoghlommeaaGreatDoor

open Go.RowKit Go.Deep Go.Maps Go.WideMaps

attribute [local go_sem ↓] Go.wp_at_zero Go.wp_at_succ

theorem clone_any (w : World) (mb n : Nat) (ns : List ByteArray) (hC : CM w mb n ns) :
    Calls Tryz.prog 135 #[.map (some mb)] w fun e w' => ∃ mb', e = .returned (.map (some mb')) ∧ CM w' mb' n ns ∧ w.heap.size ≤ mb' ∧ Ex w w' := by
  obtain ⟨D, h1, h2⟩ := hC
  have hcon := AnyW.maps_Clone_owns Tryz.cloneC 9 (plainElem Tryz.prog 3) mb n D w h1
  change Calls Tryz.prog 135 _ _ _ at hcon
  exact hcon.mono fun e w' ⟨he, ho, _, hb⟩ => ⟨_, he, ⟨D, ho, h2⟩, Nat.le_refl _, hb⟩

theorem BS_at {w : World} {S : Nat → Prop} {f : BD} {a : Option Addr} (h : BS w S f a) (h0 : 0 < blen f) : ∃ b o, a = some ⟨b, o, none⟩ ∧ S b ∧ b < w.heap.size ∧ ∀ i, i < blen f → BT8 w S f i b (o + i * 8) := by
  rcases h with h | ⟨b, o, e, hb, ht⟩
  · omega
  · exact ⟨b, o, e, hb, World.block_lt_of_cell? _ _ (BC_cell ht 0 h0).1, fun i hi => BC_cell ht i hi⟩

set_option maxRecDepth 100000 in
set_option maxHeartbeats 4000000 in
theorem body_any (ea : Addr) (fs : List PM) (la : Option Addr) (lc : Nat) (hl : fs.length ≤ 1000000000) (h60 : ∀ s, (arityR fs s).1 ≤ 60) : ∀ (d mb : Nat) (ns : List ByteArray) (b : BD) (ba : Option Addr) (bc : Nat) (z : TM) (za : Option Addr) (zc : Nat) (w : World), d ≤ 6 → ns.length + 25000 * d ≤ 200000 → blen b ≤ 1000000000 → BSm b → BLm b → tlen z ≤ 1000000000 → TSm z → TLm z →
    w.cell? ⟨0, 0, none⟩ = some (EV ea) → CM w mb ns.length ns → QA w 0 fs la → BA w 0 b ba → MA w 0 z za →
    Calls Tryz.prog 113 #[.agg #[.slice la fs.length lc, .map (some mb)], .agg #[.slice ba (blen b) bc, .slice za (tlen z) zc], .int .i64 d] w (ErrP ea (bodyB fs d ns b z) w) := by
  intro d
  induction d with
  | zero =>
    intro mb ns b ba bc z za zc w _ _ _ _ _ _ _ _ hG _ _ _ _
    have g0 : ((w.alloc (.cells #[.slice la fs.length lc, .map (some mb)] 171)).alloc (.cells #[.slice ba (blen b) bc, .slice za (tlen z) zc] 59)).cell? ⟨0, 0, none⟩ = some (EV ea) := ((Ex.new _ _).alloc _).at hG
    go_enter Tryz.func113, Tryz.ntmps113
    go_wp2_with fail
    go_ret
    exact ⟨rfl, (Ex.new _ _).alloc _⟩
  | succ d ih =>
    intro mb ns b ba bc z za zc w hd hns hbl hsm hlm hzl hzm hzk hG hC hQ hB hM
    have G : Hid (∀ w', Ex w w' → w'.cell? ⟨0, 0, none⟩ = some (EV ea)) := fun w' h => h.at hG
    have Q : Hid (∀ w', Ex w w' → QA w' 0 fs la) := fun _ h => QA_below hQ h
    have B : Hid (∀ w', Ex w w' → BS w' (fun bl => bl < w.heap.size) b ba) := fun _ h => BS_ks (BS_mono hB fun _ h1 _ => h1) fun k hk _ => h.block k hk
    have M : Hid (∀ w', Ex w w' → MA w' 0 z za) := fun _ h => MA_below hM h
    have SM : Hid (BSm b) := hsm
    have LM : Hid (BLm b) := hlm
    have I : Hid _ := ih
    have H60 : Hid _ := h60
    have N : Hid (Ex w ((w.alloc (.cells #[.slice la fs.length lc, .map (some mb)] 171)).alloc (.cells #[.slice ba (blen b) bc, .slice za (tlen z) zc] 59))) := (Ex.new _ _).alloc _
    have C : Hid (∀ w', Ex ((w.alloc (.cells #[.slice la fs.length lc, .map (some mb)] 171)).alloc (.cells #[.slice ba (blen b) bc, .slice za (tlen z) zc] 59)) w' → w'.cell? ⟨w.heap.size, 0, none⟩ = some (.slice la fs.length lc) ∧ w'.cell? ⟨w.heap.size, 1, none⟩ = some (.map (some mb)) ∧ w'.cell? ⟨w.heap.size + 1, 0, none⟩ = some (.slice ba (blen b) bc) ∧ w'.cell? ⟨w.heap.size + 1, 1, none⟩ = some (.slice za (tlen z) zc)) := fun w' h => ⟨h.at (by simp), h.at (by simp), h.at (by simp), h.at (by simp)⟩
    obtain ⟨R, hR⟩ : ∃ R, R = bodyB fs (d + 1) ns b z := ⟨_, rfl⟩
    have RR : Hid (R = bodyB fs (d + 1) ns b z) := hR
    rw [← hR]
    obtain ⟨D, hD⟩ : ∃ D : Int, D = ((d + 1 : Nat) : Int) := ⟨_, rfl⟩
    have HD : Hid (D = ((d + 1 : Nat) : Int)) := hD
    rw [← hD]
    have d0 : (D == 0) = false := by rw [beq_eq_false_iff_ne]; omega
    have CL : Hid (∀ w', Ex w w' → Calls Tryz.prog 135 #[.map (some mb)] w' fun e w'' => ∃ mb', e = .returned (.map (some mb')) ∧ CM w'' mb' ns.length ns ∧ w'.heap.size ≤ mb' ∧ Ex w' w'') := fun w' h => clone_any w' mb ns.length ns (hC.ex h)
    have ZK : Hid (TSm z ∧ TLm z) := ⟨hzm, hzk⟩
    have g0 := ((Ex.new _ _).alloc _ : Ex w ((w.alloc (.cells #[.slice la fs.length lc, .map (some mb)] 171)).alloc (.cells #[.slice ba (blen b) bc, .slice za (tlen z) zc] 59))).at hG
    clear hG hC hQ hB hM hR hD hsm hlm ih hzm hzk h60
    by_cases h4 : 400 < blen b
    · have HR : Hid (R = false) := RR.out.trans (bodyB_len h4)
      have e1 : decide ((400 : Int) < (blen b : Int)) = true := decide_eq_true (by omega)
      go_enter Tryz.func113, Tryz.ntmps113
      go_wp2_with fail
      go_ret
      exact ⟨by rw [HR.out]; rfl, N.out⟩
    have e1 : decide ((400 : Int) < (blen b : Int)) = false := decide_eq_false (by omega)
    by_cases h6 : 60 < tlen z
    · have HR : Hid (R = false) := by
        show R = false
        rw [RR.out]
        show (decide (blen b ≤ 400) && (_ && termsB (nsAt ns b (blen b)) z)) = false
        rw [termsB_len h6]; simp
      have e2 : decide ((60 : Int) < (tlen z : Int)) = true := decide_eq_true (by omega)
      go_enter Tryz.func113, Tryz.ntmps113
      go_wp2_with fail
      go_ret
      exact ⟨by rw [HR.out]; rfl, N.out⟩
    have e2 : decide ((60 : Int) < (tlen z : Int)) = false := decide_eq_false (by omega)
    obtain ⟨V, hV⟩ : ∃ V, V = (w.alloc (.cells #[.slice la fs.length lc, .map (some mb)] 171)).alloc (.cells #[.slice ba (blen b) bc, .slice za (tlen z) zc] 59) := ⟨_, rfl⟩
    have HV : Hid (V = (w.alloc (.cells #[.slice la fs.length lc, .map (some mb)] 171)).alloc (.cells #[.slice ba (blen b) bc, .slice za (tlen z) zc] 59)) := hV
    rw [← hV] at N C
    have zV : V.heap.size = w.heap.size + 2 := by rw [hV]; simp only [World.size_alloc]
    have ZV : Hid (V.heap.size = w.heap.size + 2) := zV
    obtain ⟨c0, c1, c2, c3⟩ := C.out V (Ex.refl _)
    clear hV zV
    go_enter Tryz.func113, Tryz.ntmps113
    go_upto_region 3 with fail
    rw [← HV.out]
    clear HV g0
    have y0 : w.heap.size < V.heap.size := by have := ZV.out; omega
    go_cut [7] from 26 to 31 (fun p7 wx => ∃ ib mi, p7 = .pointer (some ⟨ib, 0, none⟩) ∧ wx.cell? ⟨ib, 0, none⟩ = some (.slice la fs.length lc) ∧ wx.cell? ⟨ib, 1, none⟩ = some (.map (some mi)) ∧ CM wx mi ns.length ns ∧ V.heap.size ≤ mi ∧ Ex V wx)
    case first =>
      go_region_with (first | (go_at_call 135; refine (CL.out _ (N.out.trans (by first | exact (Ex.refl _).drew | exact (Ex.refl _).drew.alloc _))).mono ?_; rintro e w5 ⟨m5, rfl, hC5, hm5, hb5⟩; have xb : Ex V w5 := (by refine Ex.trans ?_ hb5; first | exact (Ex.refl _).drew | exact (Ex.refl _).drew.alloc _); have q0 := xb.at c0; have q1 := xb.at c1; have z5 : w.heap.size < w5.heap.size := (World.block_lt_of_cell? _ _ q0); have hm6 : V.heap.size ≤ m5 := (by refine Nat.le_trans ?_ hm5; first | exact Nat.le_refl _ | exact Below.size (Ex.alloc (Ex.drew (Ex.refl V)) _) | exact Below.size (Ex.drew (Ex.alloc (Ex.refl V) _))); first | (have ob : w5.heap[V.heap.size]? = some (.cells #[.slice none 0 0, .map none] 171 (0, 0)) := hb5.blk (heap_alloc_at _ _ rfl); have oc0 : w5.cell? ⟨V.heap.size, 0, none⟩ = some (.slice none 0 0) := blk_cell ob 0; have oc1 : w5.cell? ⟨V.heap.size, 1, none⟩ = some (.map none) := blk_cell ob 1; have of0 := blk_free ob 0; have of1 := blk_free ob 1) | skip))
      all_goals
        go_wp2_with fail
        go_meet
        first
          | exact ⟨V.heap.size, m5, rfl, blk_cell (blk_set (blk_set ob (.slice la fs.length lc)) (.map (some m5))) 0, blk_cell (blk_set (blk_set ob (.slice la fs.length lc)) (.map (some m5))) 1, (hC5.blk (Below.heap_setCell _ ⟨V.heap.size, 0, none⟩ _ _ (fun e => hC5.ne oc0 e.symm))).blk (Below.heap_setCell _ ⟨V.heap.size, 1, none⟩ _ _ (fun e => hC5.ne oc0 e.symm)), hm6, (xb.set (Nat.le_refl _) _).set (Nat.le_refl _) _⟩
          | exact ⟨w5.heap.size, m5, rfl, World.cell?_alloc_new _ _ _ _, World.cell?_alloc_new _ _ _ _, hC5.ex (Ex.new _ _), hm6, xb.alloc _⟩
    case rest =>
      rename World => W2
      obtain ⟨ib, mi, rfl, i0, i1, hCi, hmi, hxi⟩ := hcut
      have X2 : Hid (Ex V W2) := hxi
      have CI : Hid (∀ w', Fr mi W2 w' → w'.cell? ⟨ib, 0, none⟩ = some (.slice la fs.length lc) ∧ w'.cell? ⟨ib, 1, none⟩ = some (.map (some mi))) := fun w' h => ⟨h.at (hCi.ne i0) i0, h.at (hCi.ne i1) i1⟩
      have EX : Hid (∀ w', Fr mi W2 w' → Ex V w') := fun w' h => h.to_ex hxi hmi
      have C2 : Hid (CM W2 mi ns.length ns) := hCi
      have ZM : Hid (V.heap.size ≤ mi) := hmi
      clear c0 c1 c2 c3 hxi i0 i1
      obtain ⟨c0, c1, c2, c3⟩ := C.out W2 X2.out
      clear hCi hmi CL
      go_wp2_with fail
      clear c0 c1 c2 c3
      go_loopw [9, 10, 35] (fun _ _ i wr => ∃ (j : Nat), j ≤ blen b ∧ i = .int .i64 j ∧ (∀ k, k < j → bindAt fs (bodyB fs d) ns b k = true) ∧ CM wr mi (nsAt ns b j).length (nsAt ns b j) ∧ Fr mi W2 wr) (fun _ _ i _ => blen b - (intOf i).toNat)
      case atStart => exact ⟨0, by omega, rfl, fun j hj => by omega, C2.out, Fr.refl _ _⟩
      case round =>
        obtain ⟨j, hj, rfl, hall, hcm, hf⟩ := hrel
        have A : Hid (∀ k, k < j → bindAt fs (bodyB fs d) ns b k = true) := hall
        have F : Hid (Fr mi W2 wr) := hf
        have E : Hid (Ex V wr) := EX.out wr hf
        have CJ : Hid (CM wr mi (nsAt ns b j).length (nsAt ns b j)) := hcm
        obtain ⟨i0, i1⟩ := CI.out wr hf
        obtain ⟨c0, c1, c2, c3⟩ := C.out wr E.out
        have g0 := G.out wr (N.out.trans E.out)
        have hlen : (nsAt ns b j).length ≤ ns.length + 60 * j := nsAt_len j fun i hi => bind_names (A.out i hi)
        have zi : ib < wr.heap.size := World.block_lt_of_cell? _ _ i0
        clear hall hcm hf
        by_cases hlt : j < blen b
        · obtain ⟨bb, o, rfl, _, hbs, hk⟩ := BS_at (B.out wr (N.out.trans E.out)) (by omega)
          obtain ⟨b0, ⟨a1, k1, b1, hnc, x1⟩, b2, ⟨a3, k3, b3, x3⟩, ⟨a4, k4, b4, x4⟩, ⟨a5, k5, b5, x5⟩, ⟨a6, k6, b6, x6⟩, ⟨a7, k7, b7, x7⟩⟩ := hk j hlt
          obtain ⟨s1, s2, s3, s4, s5, s6, s7, s8⟩ := BSm_at SM.out j hlt
          obtain ⟨t1, t2, t3⟩ := BSm_terms SM.out j hlt
          obtain ⟨l1, l2, l3, l4, l5, l6, l7, l8, l9, la', lb', lc', ld'⟩ := BLm_at LM.out j hlt
          have HI : Hid (∀ w', Ex wr w' → Calls Tryz.prog 136 #[.agg #[.slice la fs.length lc, .map (some mi)], .agg #[.int .i64 (bkind b j), .slice a1 (bnames b j).length k1, .string (bfn b j), .slice a3 (tlen (bterms b j)) k3, .slice a4 (blen (bthen b j)) k4, .slice a5 (tlen (btsay b j)) k5, .slice a6 (blen (belse b j)) k6, .slice a7 (tlen (besay b j)) k7], .int .i64 D] w' (BindingP ea mi (nsAt ns b j) (bnames b j) (bindAt fs (bodyB fs d) ns b j) w')) := fun w' h => by
            have e1 : Ex w w' := N.out.trans (E.out.trans h)
            have ks : ∀ w2, Ex wr w2 → Ks (fun bl => bl < w.heap.size) wr w2 := fun w2 h2 k hk hk2 => h2.block k hk2
            have := binding_by ea fs la lc mi (bkind b j) (bnames b j) a1 k1 (bfn b j) (bterms b j) a3 k3 (bthen b j) a4 k4 (btsay b j) a5 k5 (belse b j) a6 k6 (besay b j) a7 k7 hl (nsAt ns b j) (by omega) d (by omega) (bodyB fs d) w' (G.out w' e1) (CJ.out.ex h) (Q.out w' e1)
              (fun w2 h2 => XS_mono (XS_ks x1 fun k hk hk2 => (h2.block k (Nat.lt_of_lt_of_le hk2 h.size) (by have h3 := ZM.out; have h4 := ZV.out; have : k < w.heap.size := hk; omega)).trans (h.block k hk2)) fun _ _ _ => Nat.zero_le _) l2 (MS_mono (MS_ks x3 (ks w' h)) fun _ _ _ => Nat.zero_le _) s2 t1 l5 (H60.out _)
              (fun w2 h2 => I.out mi _ _ _ _ _ _ _ w2 (by omega) (by omega) s3 s4 l7 s5 t2 l9 (G.out w2 (e1.trans h2)) (CJ.out.ex (h.trans h2)) (Q.out w2 (e1.trans h2)) (BS_mono (BS_ks x4 (ks w2 (h.trans h2))) fun _ _ _ => Nat.zero_le _) (MS_mono (MS_ks x5 (ks w2 (h.trans h2))) fun _ _ _ => Nat.zero_le _))
              (fun w2 h2 => I.out mi _ _ _ _ _ _ _ w2 (by omega) (by omega) s6 s7 lb' s8 t3 ld' (G.out w2 (e1.trans h2)) (CJ.out.ex (h.trans h2)) (Q.out w2 (e1.trans h2)) (BS_mono (BS_ks x6 (ks w2 (h.trans h2))) fun _ _ _ => Nat.zero_le _) (MS_mono (MS_ks x7 (ks w2 (h.trans h2))) fun _ _ _ => Nat.zero_le _))
            rw [← HD.out] at this
            exact this
          have U : Hid (bindAt fs (bodyB fs d) ns b j = true → ∀ k, k < j + 1 → bindAt fs (bodyB fs d) ns b k = true) := fun h => upto_succ A.out h
          have V1 : Hid (bindAt fs (bodyB fs d) ns b j = false → R = false) := fun h => RR.out.trans (bodyB_no hlt h)
          clear hk x1 x3 x4 x5 x6 x7 s1 s2 s3 s4 s5 s6 s7 s8 t1 t2 t3 l1 l2 l3 l4 l5 l6 l7 l8 l9 la' lb' lc' ld' c0 c1 c2 c3 g0 CJ
          go_wp2_with fail
          refine Calls.mono (HI.out _ (Ex.new _ _)) ?_
          rintro e w3 ⟨rfl, hf3, hc3⟩
          have F3 : Hid (Fr mi W2 w3) := F.out.trans ((Fr.of_ex (Ex.new _ _) _).trans hf3)
          have CN : Hid (bindAt fs (bodyB fs d) ns b j = true → CM w3 mi (nsAt ns b (j + 1)).length (nsAt ns b (j + 1))) := hc3
          clear hf3 hc3 HI b0 b1 b2 b3 b4 b5 b6 b7
          obtain ⟨r, hr⟩ : ∃ r, bindAt fs (bodyB fs d) ns b j = r := ⟨_, rfl⟩
          rw [hr] at U V1 CN ⊢
          clear hr
          cases r with
          | false =>
            have HR : Hid (R = false) := V1.out rfl
            clear U V1 CN
            simp only [errV, Bool.false_eq_true, if_false]
            go_wp2_with fail
            go_ret
            exact ⟨by rw [HR.out]; rfl, N.out.trans (EX.out _ F3.out)⟩
          | true =>
            have HU : Hid _ := U.out rfl
            have CE : Hid _ := CN.out rfl
            clear U V1 CN
            simp only [errV, if_true]
            go_wp2_with fail
            go_roundw
            case rel => exact ⟨j + 1, by omega, by go_num, HU.out, CE.out, F3.out⟩
            case measure => simp [intOf]; omega
        · have hje : j = blen b := by omega
          have HR : Hid (R = kidsB (nsAt ns b j) 8 z) := by
            show R = _
            rw [RR.out, bodyB_end (by omega) (fun i hi => A.out i (by omega)), hje]
            show (decide (tlen z ≤ 60) && kidsB (nsAt ns b (blen b)) 8 z) = _
            rw [decide_eq_true (show tlen z ≤ 60 by omega)]; rfl
          have LT : Hid (∀ w', Ex wr w' → Calls Tryz.prog 137 #[.agg #[.slice la fs.length lc, .map (some mi)], .slice za (tlen z) zc, .int .i64 8] w' (ErrP ea R w')) := fun w' h => by
            rw [HR.out]
            exact terms_any ea la fs.length lc mi (nsAt ns b j).length (nsAt ns b j) 8 z za zc w' (by omega) (G.out w' (N.out.trans (E.out.trans h))) (CJ.out.ex h) (M.out w' (N.out.trans (E.out.trans h))) (by omega) ZK.out.1 ZK.out.2
          clear hje
          go_wp2_with fail
          refine Calls.mono (LT.out _ (Ex.refl _)) ?_
          rintro e w3 ⟨rfl, hb3⟩
          go_wp2_with fail
          go_ret
          exact ⟨rfl, N.out.trans (E.out.trans hb3)⟩

end Go.Proofs.YtgpdnoghlommeaaGreatDoor

namespace Go.Proofs.YtgpdnoghlommeaaGreatDoor

open Go.RowKit Go.Deep Go.Maps Go.WideMaps

attribute [local go_sem ↓] Go.wp_at_zero Go.wp_at_succ

/-- What names are of, in two rows. -/
def tE (ns : List ByteArray) (tl : F) : TEnv := setAll nilK ns tl ns.length
theorem fitE_of {ns : List ByteArray} {tl : F} (h : fitL tl) (hl : len tl = ns.length) : fitE (tE ns tl) := fitE_all (fun _ => rfl) h _ (by omega)

/-- Calls of functions ahead go on as they should, by the specification. -/
def SCallsT (fs : List PM) (fa : Option Addr) (fc : Nat) (call : TCall) : Prop := ∀ fn v, (arityR fs fn).2.2 = true → len v = (arityR fs fn).1 → fitL v → ∀ (w : World) (a : Option Addr) (c : Nat), QA w 0 fs fa → SA w (fun _ => True) v a → Calls Tryz.prog 7 #[.slice fa fs.length fc, .string fn, .slice a (len v) c] w (SkP (call fn v) w)

/-- How far the blocks of an environment have gone. -/
def GoneT (w : World) (B : Nat) (nv tv nv' tv' : Value) : Prop := ∀ k, Own3 B nv' tv' k → Own3 B nv tv k ∨ w.heap.size < k

theorem EnvT.terms {w : World} {base B : Nat} {X : Nat → Prop} {ns : List ByteArray} {tl : F} {nv tv : Value} (hE : EnvT w base B X ns tl nv tv) (hfit : fitL tl) (hlen : len tl = ns.length) (hl : ns.length ≤ 1000000000) (f : TM) (hk : kidsB ns 8 f = true) (hsm : TSm f) (hfl : tlen f ≤ 100000000) (a : Option Addr) (c : Nat) (w' : World) (hx : Ex w w') (hM : MA w' 0 f a) :
    Calls Tryz.prog 54 #[.pointer (some ⟨B, 0, none⟩), .slice a (tlen f) c] w' (StsP (fun b => Out3 X B nv tv b ∧ b < w.heap.size) (evT (tE ns tl) f) w') := by
  obtain ⟨na, nc, hnv, hX⟩ := XS_own hE.names
  obtain ⟨ta, tc, htv, hV⟩ := hE.types.top
  obtain ⟨x0, x1⟩ := hE.cells.cell
  have x0' := hx.at x0
  have x1' := hx.at x1
  rw [hnv] at x0'
  rw [htv] at x1'
  have h1 := stermsT_any B (fun b => tv.ownBlock = some b) (fun b => Out3 X B nv tv b ∧ b < w.heap.size) ns tl na ta nc tc hl hlen (fitAll_yes hfit) f a c w' x0' x1' (XA_below (XS_mono hX fun _ _ _ => Nat.zero_le _) hx) ((hV.mono (fun _ _ h => h) fun b hl hs => ⟨hs, hl⟩).ex hx) (fun b hb => Nat.lt_of_lt_of_le hb.2 hx.size) hM hfl hsm hk
  exact h1

theorem envK_names {call : TCall} {d : Nat} {ns : List ByteArray} {tl : F} {b : BD} {j : Nat} {vj lv : F} (h : envK call (bodyK call d) (tE ns tl) b j = some (tE (nsAt ns b j) vj)) (hb : bindK call (bodyK call d) (tE (nsAt ns b j) vj) b j = some lv) (hl : len vj = (nsAt ns b j).length) (hn : len lv = (bnames b j).length) : envK call (bodyK call d) (tE ns tl) b (j + 1) = some (tE (nsAt ns b (j + 1)) (catT vj lv (len lv))) := by
  rw [envK_step h hb]
  show _ = some (setAll nilK (nsAt ns b j ++ bnames b j) _ (nsAt ns b j ++ bnames b j).length)
  rw [setAll_all hl hn]; rfl

set_option maxRecDepth 100000 in
set_option maxHeartbeats 8000000 in
theorem sbodyT_any (fs : List PM) (fa : Option Addr) (fc : Nat) (call : TCall) (hok : okCallK fs call) (hcs : SCallsT fs fa fc call) : ∀ (d base B : Nat) (X : Nat → Prop) (ns : List ByteArray) (tl : F) (nv tv : Value) (b : BD) (ba : Option Addr) (bc : Nat) (z : TM) (za : Option Addr) (zc : Nat) (w : World), d ≤ 6 → base ≤ w.heap.size → (∀ q, X q → q < base) → EnvT w base B X ns tl nv tv → QS w (fun b => b < base) fs fa → bodyB fs d ns b z = true → fitL tl → len tl = ns.length → ns.length + 25000 * d ≤ 200000 → BSm b → BLm b → TSm z → TLm z → BS w (fun b => b < base) b ba → MS w (fun b => b < base) z za →
    Calls Tryz.prog 24 #[.pointer (some ⟨B, 0, none⟩), .slice fa fs.length fc, .agg #[.slice ba (blen b) bc, .slice za (tlen z) zc]] w (SbT X B nv tv (bodyK call d (tE ns tl) b z) w) := by
  intro d
  induction d with
  | zero =>
    intro base B X ns tl nv tv b ba bc z za zc w _ _ _ _ _ h
    cases h
  | succ d ih =>
    intro base B X ns tl nv tv b ba bc z za zc w hd hbw hXb hE hQ hbok hty hlen hns hsm hlm hzm hzk hB hM
    obtain ⟨hb4, hba, hzt⟩ := bodyB_yes hbok
    obtain ⟨hz6, hz8⟩ := termsB_kids hzt
    have N : Hid (Ex w (w.alloc (.cells #[.slice ba (blen b) bc, .slice za (tlen z) zc] 59))) := Ex.new _ _
    have zB : B < w.heap.size := hE.cells.lt
    have zl : base ≤ B := hE.lo
    have W0z : (w.alloc (.cells #[.slice ba (blen b) bc, .slice za (tlen z) zc] 59)).heap.size = w.heap.size + 1 := World.size_alloc _ _
    have OW := Own3.ge hE
    -- blocks below the base stay
    have LOW : Hid (∀ w', FrS (Own3 B nv tv) (w.alloc (.cells #[.slice ba (blen b) bc, .slice za (tlen z) zc] 59)) w' → ∀ k, k < base → w'.heap[k]? = w.heap[k]?) := fun w' h k hk => (h.block k (by omega) fun ho => by have := (OW k ho).1; omega).trans (N.out.block k (by omega))
    have Q : Hid (∀ w', FrS (Own3 B nv tv) (w.alloc (.cells #[.slice ba (blen b) bc, .slice za (tlen z) zc] 59)) w' → QS w' (fun b => b < base) fs fa) := fun w' h => QS_ks hQ fun k hk _ => LOW.out w' h k hk
    have BB : Hid (∀ w', FrS (Own3 B nv tv) (w.alloc (.cells #[.slice ba (blen b) bc, .slice za (tlen z) zc] 59)) w' → BS w' (fun b => b < base) b ba) := fun w' h => BS_ks hB fun k hk _ => LOW.out w' h k hk
    have MM0 : Hid (∀ w', FrS (Own3 B nv tv) (w.alloc (.cells #[.slice ba (blen b) bc, .slice za (tlen z) zc] 59)) w' → MS w' (fun b => b < base) z za) := fun w' h => MS_ks hM fun k hk _ => LOW.out w' h k hk
    have OWB : Hid (∀ k, Own3 B nv tv k → k < w.heap.size) := fun k hk => (OW k hk).2
    have BX : Hid (∀ w', FrS (Own3 B nv tv) (w.alloc (.cells #[.slice ba (blen b) bc, .slice za (tlen z) zc] 59)) w' → w'.cell? ⟨w.heap.size, 0, none⟩ = some (.slice ba (blen b) bc) ∧ w'.cell? ⟨w.heap.size, 1, none⟩ = some (.slice za (tlen z) zc)) := fun w' h => ⟨h.at (fun hk => by have := OWB.out _ hk; exact absurd this (Nat.lt_irrefl _)) (by simp), h.at (fun hk => by have := OWB.out _ hk; exact absurd this (Nat.lt_irrefl _)) (by simp)⟩
    obtain ⟨R, hR⟩ : ∃ R, R = bodyK call (d + 1) (tE ns tl) b z := ⟨_, rfl⟩
    have RR : Hid (R = bodyK call (d + 1) (tE ns tl) b z) := hR
    rw [← hR]
    have E0 : Hid _ := hE
    have I : Hid _ := ih
    have SM : Hid (BSm b ∧ BLm b) := ⟨hsm, hlm⟩
    have ZK : Hid (TSm z ∧ TLm z ∧ kidsB (nsAt ns b (blen b)) 8 z = true ∧ tlen z ≤ 60) := ⟨hzm, hzk, hz8, hz6⟩
    have BA0 : Hid (∀ i, i < blen b → bindAt fs (bodyB fs d) ns b i = true) := hba
    have OK : Hid (okCallK fs call) := hok
    have CS : Hid (SCallsT fs fa fc call) := hcs
    have BW : Hid (base ≤ w.heap.size ∧ B < w.heap.size ∧ base ≤ B) := ⟨hbw, zB, zl⟩
    have XB : Hid (∀ q, X q → q < base) := hXb
    have TY0 : Hid (fitL tl ∧ len tl = ns.length) := ⟨hty, hlen⟩
    have x0 := (hE.cells.ex N.out).cell
    clear hR hE ih hsm hlm hzm hzk hz8 hba hok hcs hXb hty hlen hQ hB hM hbok hzt OW
    obtain ⟨x0, x1⟩ := x0
    go_enter Tryz.func24, Tryz.ntmps24
    go_wp2_with fail
    clear x0 x1
    go_loopw [8, 9, 10] (fun i _ _ wr => ∃ (j : Nat) (nj : List ByteArray) (vj : F) (nvj tvj : Value), j ≤ blen b ∧ i = .int .i64 j ∧ EnvT wr base B X nj vj nvj tvj ∧ fitL vj ∧ len vj = nj.length ∧ nj.length ≤ ns.length + 60 * j ∧ nj = nsAt ns b j ∧ envK call (bodyK call d) (tE ns tl) b j = some (tE nj vj) ∧ GoneT w B nv tv nvj tvj ∧ FrS (Own3 B nv tv) (w.alloc (.cells #[.slice ba (blen b) bc, .slice za (tlen z) zc] 59)) wr) (fun i _ _ _ => blen b - (intOf i).toNat)
    case atStart => exact ⟨0, ns, tl, nv, tv, by omega, rfl, E0.out.ex N.out, TY0.out.1, TY0.out.2, by omega, rfl, rfl, fun k hk => Or.inl hk, FrS.refl _ _⟩
    case round =>
      obtain ⟨j, nj, vj, nvj, tvj, hj, rfl, hEj, htj, hlj, hnl, hnj, hev, hgo, hfr⟩ := hrel
      have EJ : Hid (EnvT wr base B X nj vj nvj tvj) := hEj
      have FR : Hid (FrS (Own3 B nv tv) (w.alloc (.cells #[.slice ba (blen b) bc, .slice za (tlen z) zc] 59)) wr) := hfr
      have TYJ : Hid (fitL vj ∧ len vj = nj.length) := ⟨htj, hlj⟩
      have GOJ : Hid (GoneT w B nv tv nvj tvj) := hgo
      have NLJ : Hid (nj.length ≤ ns.length + 60 * j) := hnl
      have n6 : nj.length ≤ 200000 := by omega
      obtain ⟨bx0, bx1⟩ := BX.out wr hfr
      obtain ⟨x0, x1⟩ := hEj.cells.cell
      have zB : B < wr.heap.size := World.block_lt_of_cell? _ _ x0
      have zw : w.heap.size < wr.heap.size := World.block_lt_of_cell? _ _ bx0
      have XW : Hid (∀ b, X b → b < w.heap.size) := fun q hq => by have := XB.out q hq; have := BW.out.1; omega
      have NJ : Hid (nj = nsAt ns b j ∧ envK call (bodyK call d) (tE ns tl) b j = some (tE nj vj)) := ⟨hnj, hev⟩
      clear hEj hfr htj hlj hgo hnl
      by_cases hlt : j < blen b
      · have e1 : decide ((j : Int) < (blen b : Int)) = true := decide_eq_true (by omega)
        obtain ⟨bb, o, rfl, hbS, hbs, hk⟩ := BS_at (BB.out wr FR.out) (by omega)
        obtain ⟨b0, ⟨a1, k1, b1, hnc, q1⟩, b2, ⟨a3, k3, b3, q3⟩, ⟨a4, k4, b4, q4⟩, ⟨a5, k5, b5, q5⟩, ⟨a6, k6, b6, q6⟩, ⟨a7, k7, b7, q7⟩⟩ := hk j hlt
        obtain ⟨s1, s2, s3, s4, s5, s6, s7, s8⟩ := BSm_at SM.out.1 j hlt
        obtain ⟨t1, t2, t3⟩ := BSm_terms SM.out.1 j hlt
        obtain ⟨l1, l2, l3, l4, l5, l6, l7, l8, l9, la', lb', lc', ld'⟩ := BLm_at SM.out.2 j hlt
        obtain ⟨hn60, htt, _, hkind⟩ := bindB_yes (BA0.out j hlt)
        obtain ⟨ht60, hk8⟩ := termsB_kids htt
        have tyJ : fitE (tE nj vj) := fitE_of TYJ.out.1 TYJ.out.2
        have BTY : Hid (∀ lv, bindK call (bodyK call d) (tE nj vj) b j = some lv → fitL lv ∧ len lv = (bnames b j).length) := fun lv h => bind_fit OK.out (body_fit OK.out d) (BA0.out j hlt) tyJ h
        have BN : Hid (bindK call (bodyK call d) (tE nj vj) b j = none → R = none) := fun h => RR.out.trans (bodyK_none hlt hev h)
        have z8 : base ≤ wr.heap.size := by have := BW.out.1; omega
        have SB : Hid (Calls Tryz.prog 53 #[.pointer (some ⟨B, 0, none⟩), .slice fa fs.length fc, .agg #[.int .i64 (bkind b j), .slice a1 (bnames b j).length k1, .string (bfn b j), .slice a3 (tlen (bterms b j)) k3, .slice a4 (blen (bthen b j)) k4, .slice a5 (tlen (btsay b j)) k5, .slice a6 (blen (belse b j)) k6, .slice a7 (tlen (besay b j)) k7]] wr (SbdT (Out3 X B nvj tvj) (bindK call (bodyK call d) (tE nj vj) b j) wr)) := by
          have ks : ∀ w', Ex wr w' → Ks (fun b => b < base) wr w' := fun w' h k _ hk2 => h.block k hk2
          refine sbindT_by base B X nj vj nvj tvj fa fs.length fc _ _ a1 k1 _ _ a3 k3 _ a4 k4 _ a5 k5 _ a6 k6 _ a7 k7 (evT (tE nj vj) (bterms b j)) (bodyK call d (tE nj vj) (bthen b j) (btsay b j)) (bodyK call d (tE nj vj) (belse b j) (besay b j)) _ wr EJ.out (by omega) (by have := TYJ.out.2; omega) z8 XB.out
            (fun w' h => EJ.out.terms TYJ.out.1 TYJ.out.2 (by omega) _ (by rw [hnj]; exact hk8) t1 (by omega) a3 k3 w' h (MS_mono (MS_ks q3 (ks w' h)) fun _ _ _ => Nat.zero_le _)) (fun h0 => by unfold bindK; rw [h0]; rfl) ?_
          intro lv hlv
          have hR : bindK call (bodyK call d) (tE nj vj) b j = kindK call (bodyK call d) (tE nj vj) (bkind b j) (bfn b j) (bthen b j) (btsay b j) (belse b j) (besay b j) lv := by unfold bindK; rw [hlv]; rfl
          have hlen := evT_len hlv
          have hfit : fitL lv := evt_fit tyJ _ 8 _ hk8 lv hlv
          rcases hkind with ⟨hk1, _, _⟩ | ⟨hk2, ha1, ha2, _⟩ | ⟨hk3, ht1, hr1, hr2, _, _⟩
          · exact Or.inl ⟨hk1, by rw [hR, hk1]; rfl⟩
          · refine Or.inr (Or.inl ⟨hk2, fun w2 a' c' h2 hV => ?_⟩)
            rw [hR, show kindK call (bodyK call d) (tE nj vj) (bkind b j) (bfn b j) (bthen b j) (btsay b j) (belse b j) (besay b j) lv = call (bfn b j) lv by unfold kindK; rw [if_pos hk2]]
            exact CS.out (bfn b j) lv ha1 (hlen.trans ha2.symm) hfit w2 a' c' (QS_mono (QS_ks (Q.out wr FR.out) (ks w2 h2)) fun _ _ _ => Nat.zero_le _) hV
          · have hfb : ∀ (bt : BD) (tz : TM), bodyB fs d (nsAt ns b j) bt tz = true → ∀ x, bodyK call d (tE nj vj) bt tz = some x → fitL x ∧ len x ≤ 1000000000 := fun bt tz hb x hx => by
              obtain ⟨r1, r2⟩ := body_fit OK.out d _ _ _ _ _ hb tyJ hx
              refine ⟨r1, ?_⟩
              cases d with
              | zero => cases hb
              | succ d' =>
                have := (termsB_kids (bodyB_yes hb).2.2).1
                omega
            have hgo : ∀ (bt : BD) (a4 : Option Addr) (k4 : Nat) (tz : TM) (a5 : Option Addr) (k5 : Nat), bodyB fs d (nsAt ns b j) bt tz = true → BSm bt → BLm bt → TSm tz → TLm tz → BS wr (fun b => b < base) bt a4 → MS wr (fun b => b < base) tz a5 → BodyT wr wr.heap.size (fun b => X b ∨ Own3 B nvj tvj b) (.slice fa fs.length fc) nj vj (.agg #[.slice a4 (blen bt) k4, .slice a5 (tlen tz) k5]) (bodyK call d (tE nj vj) bt tz) := fun bt a4 k4 tz a5 k5 hb1 hb2 hb3 hb4 hb5 hb6 hb7 base' B' nv' tv' w' hbb hbw' hX' hE' hx' =>
              I.out base' B' _ nj vj nv' tv' _ a4 k4 _ a5 k5 w' (by omega) hbw' hX' hE' (QS_mono (QS_ks (Q.out wr FR.out) (ks w' hx')) fun q _ h => Nat.lt_of_lt_of_le h (by omega)) (by rw [hnj]; exact hb1) TYJ.out.1 TYJ.out.2 (by have := NLJ.out; omega) hb2 hb3 hb4 hb5 (BS_mono (BS_ks hb6 (ks w' hx')) fun q _ h => Nat.lt_of_lt_of_le h (by omega)) (MS_mono (MS_ks hb7 (ks w' hx')) fun q _ h => Nat.lt_of_lt_of_le h (by omega))
            exact Or.inr (Or.inr ⟨hk3, by omega, by rw [hR, hk3]; rfl, hfb _ _ hr1, hfb _ _ hr2, hgo _ a4 k4 _ a5 k5 hr1 s4 l7 t2 l9 q4 q5, hgo _ a6 k6 _ a7 k7 hr2 s7 lb' t3 ld' q6 q7⟩)
        have HX1 : Hid (XS wr (fun b => b < base) (bnames b j) a1 ∧ (bnames b j).length ≤ 60) := ⟨q1, hn60⟩
        have HBB : Hid (bb < base) := hbS
        have B1 : Hid (wr.cell? ⟨bb, o + j * 8 + 1, none⟩ = some (.slice a1 (bnames b j).length k1)) := b1
        have JL : Hid (j < blen b ∧ blen b ≤ 400) := ⟨hlt, hb4⟩
        clear hk q1 q3 q4 q5 q6 q7 s1 s2 s3 s4 s5 s6 s7 s8 t1 t2 t3 l1 l2 l3 l4 l5 l6 l7 l8 l9 la' lb' lc' ld' hn60 htt hkind ht60 hk8 hnj hev tyJ hnc hbS
        go_wp2_with fail
        refine Calls.mono SB.out ?_
        rintro e w3 ⟨r, a9, k9, rfl, hrv, hV9, hx3⟩
        have E3 : Hid (EnvT w3 base B X nj vj nvj tvj) := EJ.out.ex hx3
        have V9 : Hid (SA w3 (Out3 X B nvj tvj) r a9) := hV9
        have RV9 : Hid _ := hrv
        have X3 : Hid (Ex wr w3) := hx3
        have FR3 : Hid (FrS (Own3 B nv tv) _ w3) := FR.out.trans (FrS.of_ex hx3)
        clear x0 x1 bx0 bx1 b0 b1 b2 b3 b4 b5 b6 b7
        obtain ⟨bx0, bx1⟩ := BX.out w3 FR3.out
        have b1 := hx3.at B1.out
        obtain ⟨rr, hrr⟩ : ∃ rr, rr = bindK call (bodyK call d) (tE nj vj) b j := ⟨_, rfl⟩
        have HRR : Hid (bindK call (bodyK call d) (tE nj vj) b j = rr) := hrr.symm
        rw [← hrr] at RV9 BTY BN
        rw [← hrr]
        clear hrv hV9 hrr hx3 SB
        obtain ⟨x0, x1⟩ := E3.out.cells.cell
        have zB3 : B < w3.heap.size := World.block_lt_of_cell? _ _ x0
        have zw3 : w.heap.size < w3.heap.size := World.block_lt_of_cell? _ _ bx0
        have zb3 : bb < w3.heap.size := World.block_lt_of_cell? _ _ b1
        cases rr with
        | none =>
          simp only [Option.isSome_none]
          have HRn : Hid (R = none) := BN.out (by first | rfl | trivial)
          have FW : Hid (∀ o, FrS (Own3 B nv tv) w (w3.alloc o)) := fun o => ((FrS.of_ex N.out).trans FR3.out).trans (FrS.of_ex (Ex.new _ _))
          go_wp2_with fail
          refine bodyPost_ret (v := .tuple #[.slice (some ⟨w3.heap.size, 0, none⟩) 0 0, .bool false]) (by simp [results, Tryz.results24, go_sem]) rfl ?_
          rw [HRn.out]
          exact ⟨.nil, some ⟨w3.heap.size, 0, none⟩, 0, rfl, fun v h => (by cases h), Or.inl rfl, FW.out _⟩
        | some lv =>
          simp only [Option.isSome_some]
          obtain ⟨tlv, nlv⟩ := BTY.out lv rfl
          have elv : lv = r := RV9.out lv rfl
          subst elv
          obtain ⟨na, nc, rfl, _⟩ := XS_own E3.out.names
          obtain ⟨ta, tc, rfl, _⟩ := E3.out.types.top
          have HN : Hid (∀ w', Ex w3 w' → w'.ownsRow base 9 1 (.slice na nj.length nc) nj.length (nj.map Value.string)) := fun w' h => row_ex E3.out.names h
          have HXB : Hid (∀ w', Ex w3 w' → XA w' 0 (bnames b j) a1) := fun w' h => XS_mono (XS_ks HX1.out.1 fun k _ hk2 => (X3.out.trans h).block k hk2) fun _ _ _ => Nat.zero_le _
          have h63 : nj.length + (bnames b j).length ≤ 1000000 := by have := HX1.out.2; omega
          have h63v : len vj + len lv ≤ 1000000 := by have := HX1.out.2; have := TYJ.out.2; omega
          have TLV : Hid (fitL lv ∧ len lv = (bnames b j).length) := ⟨tlv, nlv⟩
          have hb3 : base ≤ w3.heap.size := by have := BW.out.2.2; omega
          have E3C : Hid (ET w3 B (.slice na nj.length nc) (.slice ta (len vj) tc)) := E3.out.cells
          clear tlv nlv
          go_wp2_with fail
          go_region_law (refine step_of_wp rfl (wp_names (.tmp 36) (.tmp 42) rfl base hb3 (.slice na nj.length nc) nj rfl (HN.out _ (Ex.refl _).drew) (bnames b j) a1 k1 rfl (HXB.out _ (Ex.refl _).drew) h63 ?_); intro v' wn g1 g2 g3; generalize hNL : nj ++ bnames b j = NL at g1; obtain ⟨na2, nc2, rfl, _⟩ := XS_own g1; have HNL : Hid (NL = nj ++ bnames b j) := hNL.symm; clear hNL; have hbn : ET wn B (.slice na nj.length nc) (.slice ta (len vj) tc) := (g2.block B zB3 (fun e => E3.out.nB e.symm)).trans E3C.out; have y0 := hbn.cell.1; have fr1 : wn.frozen? ⟨B, 0, none⟩ = false := ET.free hbn; have zBn : B < wn.heap.size := ET.lt hbn)
          all_goals
            obtain ⟨w4, hw4⟩ : ∃ w4, w4 = wn.setCell ⟨B, 0, none⟩ (.slice na2 NL.length nc2) := ⟨_, rfl⟩
            rw [← hw4]
            have EB4 : ET w4 B (.slice na2 NL.length nc2) (.slice ta (len vj) tc) := hw4 ▸ ET.nm hbn
            have z4 : w4.heap.size = wn.heap.size := hw4 ▸ (by simp [World.setCell])
            have z3n : w3.heap.size ≤ wn.heap.size := g2.size
            -- what stays from the binding on
            have h4 : ∀ q, q < w3.heap.size → q ≠ B → (Value.slice na nj.length nc).ownBlock ≠ some q → w4.heap[q]? = w3.heap[q]? := fun q hq hne ho => hw4 ▸ ((Below.heap_setCell _ _ _ _ hne).trans (g2.block q hq fun e => ho e.symm))
            have N4 : w4.ownsRow base 9 1 (.slice na2 NL.length nc2) NL.length (NL.map Value.string) := row_fr g1 fun g hg => hw4 ▸ Below.heap_setCell _ _ _ _ fun e => by
              have e2 : g = B := e
              rcases Moved.own g3 hg with h | h
              · exact E3.out.nB (e2 ▸ h)
              · have : w3.drew.heap.size = w3.heap.size := rfl
                omega
            have V4 : RT w4 base (fun q => Out3 X B (.slice na nj.length nc) (.slice ta (len vj) tc) q ∧ q < w3.heap.size) (.slice ta (len vj) tc) vj := (RT.mono E3.out.types fun q hl hs => ⟨hs, hl⟩).keep (fun g hg => h4 g (RT.own E3.out.types g hg).2 (fun e => E3.out.tB (e ▸ hg)) fun e => E3.out.nt g e hg) fun q _ hs => h4 q hs.2 (fun e => hs.1.2 (Or.inl e)) fun e => hs.1.2 (Or.inr (Or.inl e))
            have V94 : SA w4 (fun q => Out3 X B (.slice na nj.length nc) (.slice ta (len vj) tc) q ∧ q < w3.heap.size) lv a9 := SA_ks (SA_mono V9.out fun q hl hs => ⟨hs, hl⟩) fun q hs hl => h4 q hl (fun e => hs.1.2 (Or.inl e)) fun e => hs.1.2 (Or.inr (Or.inl e))
            have FR4 : Hid (FrS (Own3 B (.slice na nj.length nc) (.slice ta (len vj) tc)) w3 w4) := by
              refine ⟨?_, ?_, ?_, by omega, fun q hq hn => h4 q hq (fun e => hn (Or.inl e)) fun e => hn (Or.inr (Or.inl e))⟩
              · rw [hw4]; exact g2.os
              · rw [hw4]; exact g2.tape
              · rw [hw4]; exact g2.output
            have G3 : Hid _ := g3
            clear hbn y0 fr1 zBn hw4 g1 g2 g3 x0 x1
            obtain ⟨x0, x1⟩ := ET.cell EB4
            have zB4 : B < w4.heap.size := World.block_lt_of_cell? _ _ x0
            have HEB4 : Hid _ := EB4
            have HN4 : Hid _ := N4
            have HZ4 : Hid (w3.heap.size ≤ w4.heap.size) := by show _ ≤ _; omega
            clear EB4 N4 h4
            go_wp2_with (at_builtin; refine wpList_plain rfl fun K hK => ?_; refine wp_types (.tmp 50) (.tmp 51) rfl base (by have := HZ4.out; omega) (.slice ta (len vj) tc) vj _ rfl V4 (fun q hs e => hs.1.2 (Or.inr (Or.inr e))) lv a9 k9 _ rfl (SA.ttop V94) h63v ?_)
            intro v'' wv j1 j2 j3
            obtain ⟨ta2, tc2, rfl, _⟩ := RT.top j1
            refine hK _ _ ?_
            have own4 : ∀ g, (Value.slice ta (len vj) tc).ownBlock = some g → g < w4.heap.size ∧ g < w3.heap.size := fun g hg => ⟨(RT.own V4 g hg).2, (RT.own E3.out.types g hg).2⟩
            have hbv : ET wv B (.slice na2 NL.length nc2) (.slice ta (len vj) tc) := (j2.block B zB4 (fun e => E3.out.tB e.symm)).trans HEB4.out
            have fr2 : wv.frozen? ⟨B, 1, none⟩ = false := ET.free hbv
            clear x0 x1
            obtain ⟨x0, x1⟩ := ET.cell hbv
            have zBv : B < wv.heap.size := World.block_lt_of_cell? _ _ x0
            have HBV : Hid _ := hbv
            have J1 : Hid _ := j1
            have J2 : Hid _ := j2
            have J3 : Hid _ := j3
            have O4 : Hid _ := own4
            clear hbv j1 j2 j3 own4 V4 V94
            go_wp2_with fail
            go_roundw
            case rel =>
              have hset : ∀ q, q ≠ B → (wv.setCell ⟨B, 1, none⟩ (.slice ta2 (len (catT vj lv (len lv))) tc2)).heap[q]? = wv.heap[q]? := fun q hne => Below.heap_setCell _ _ _ _ hne
              have gB : (Value.slice na2 NL.length nc2).ownBlock ≠ some B := fun e => by
                rcases Moved.own G3.out e with h | h
                · exact E3.out.nB h
                · have : w3.drew.heap.size = w3.heap.size := rfl
                  omega
              have vB : (Value.slice ta2 (len (catT vj lv (len lv))) tc2).ownBlock ≠ some B := fun e => by
                rcases Moved.own J3.out e with h | h
                · exact E3.out.tB h
                · omega
              have nvne : ∀ g, (Value.slice na2 NL.length nc2).ownBlock = some g → (Value.slice ta2 (len (catT vj lv (len lv))) tc2).ownBlock ≠ some g := fun g hg e => by
                have hgl := (World.ownsRow.lt HN4.out g hg).2
                rcases Moved.own J3.out e with h | h
                · rcases Moved.own G3.out hg with h2 | h2
                  · exact E3.out.nt g h2 h
                  · have : w3.drew.heap.size = w3.heap.size := rfl
                    have := (O4.out g h).2
                    omega
                · omega
              refine ⟨j + 1, NL, catT vj lv (len lv), _, _, by have := JL.out.1; omega, by go_num, ⟨ET.ty HBV.out, E3.out.lo, ?_, ?_, gB, vB, nvne⟩, fitL_cat TYJ.out.1 TLV.out.1 _ (Nat.le_refl _), by rw [catT_len, HNL.out, List.length_append]; have := TYJ.out.2; have := TLV.out.2; omega, by rw [HNL.out, List.length_append]; have := NLJ.out; have := HX1.out.2; omega, ?_, ?_, ?_, ?_⟩
              · exact row_fr HN4.out fun g hg => (hset g fun e => gB (e ▸ hg)).trans (J2.out.block g (World.ownsRow.lt HN4.out g hg).2 fun e => by
                  have h := e.symm
                  rcases Moved.own G3.out hg with h2 | h2
                  · exact E3.out.nt g h2 h
                  · have : w3.drew.heap.size = w3.heap.size := rfl
                    have := (O4.out g h).2
                    omega)
              · refine RT.keep (RT.mono J1.out fun q hl hs => ?_) (fun g hg => hset g fun e => vB (e ▸ hg)) fun q _ hs => hset q fun e => hs.2 (Or.inl e)
                refine ⟨hs.1.1.1, fun h => ?_⟩
                rcases h with h | h | h
                · exact hs.1.1.2 (Or.inl h)
                · rcases Moved.own G3.out h with h2 | h2
                  · exact hs.1.1.2 (Or.inr (Or.inl h2))
                  · have : w3.drew.heap.size = w3.heap.size := rfl
                    have := hs.1.2
                    omega
                · exact hs.2 h
              · rw [HNL.out, NJ.out.1]; rfl
              · have e1 := NJ.out.2
                have e2 := HRR.out
                have hnj := NJ.out.1
                rw [hnj] at e1 e2
                have h5 := envK_names e1 e2 (by rw [TYJ.out.2, hnj]) TLV.out.2
                rw [h5, HNL.out, hnj]; rfl
              · intro k hk
                rcases hk with h | h | h
                · exact Or.inl (Or.inl h)
                · rcases Moved.own G3.out h with h2 | h2
                  · exact GOJ.out k (Or.inr (Or.inl h2))
                  · have : w3.drew.heap.size = w3.heap.size := rfl
                    exact Or.inr (by omega)
                · rcases Moved.own J3.out h with h2 | h2
                  · exact GOJ.out k (Or.inr (Or.inr h2))
                  · have := HZ4.out; exact Or.inr (by omega)
              · refine FR3.out.out (T := Own3 B (.slice na nj.length nc) (.slice ta (len vj) tc)) ⟨J2.out.os.trans FR4.out.os, J2.out.tape.trans FR4.out.tape, J2.out.output.trans FR4.out.output, ?_, fun k hk hn => ?_⟩ fun k hk ho => ?_
                · have h1 := J2.out.size
                  have h2 := HZ4.out
                  have h3 : (wv.setCell ⟨B, 1, none⟩ (.slice ta2 (len (catT vj lv (len lv))) tc2)).heap.size = wv.heap.size := by simp [World.setCell]
                  omega
                · exact (hset k fun e => hn (Or.inl e)).trans ((J2.out.block k (Nat.lt_of_lt_of_le hk HZ4.out) fun e => hn (Or.inr (Or.inr e.symm))).trans (FR4.out.block k hk hn))
                · rcases GOJ.out k ho with h | h
                  · exact h
                  · rw [World.size_alloc] at hk
                    omega
            case measure => have := JL.out.1; simp [intOf]; omega
      · have e1 : decide ((j : Int) < (blen b : Int)) = false := decide_eq_false (by omega)
        have hje : j = blen b := by omega
        have HR : Hid (R = evT (tE nj vj) z) := by
          show _ = _
          rw [RR.out, bodyK, ← hje, hev]; rfl
        have TT : Hid (Calls Tryz.prog 54 #[.pointer (some ⟨B, 0, none⟩), .slice za (tlen z) zc] wr (StsP (fun b => Out3 X B nvj tvj b ∧ b < wr.heap.size) R wr)) := by
          rw [HR.out]
          exact EJ.out.terms TYJ.out.1 TYJ.out.2 (by omega) z (by rw [hnj, hje]; exact ZK.out.2.2.1) ZK.out.1 (by have := ZK.out.2.2.2; omega) za zc wr (Ex.refl _) (MS_mono (MM0.out wr FR.out) fun _ _ _ => Nat.zero_le _)
        clear hje hev hnj
        go_wp2_with fail
        refine Calls.mono TT.out ?_
        rintro e w3 ⟨g, a3, c3, rfl, hg, hV3, hb3⟩
        have G3 : Hid _ := hg
        have V3 : Hid (SA w3 (fun b => ¬ X b) g a3) := SA_mono hV3 fun q _ hq => by
          rcases hq with h | h
          · exact h.1.1
          · intro hx; have := XW.out q hx; omega
        have F3 : Hid (FrS (Own3 B nv tv) w w3) := ((FrS.of_ex N.out).trans FR.out).trans (FrS.of_ex hb3)
        clear hg hV3 hb3
        go_wp2_with fail
        exact bodyPost_ret (v := .tuple #[.slice a3 (len g) c3, .bool R.isSome]) (by simp [results, Tryz.results24, go_sem]) rfl ⟨g, a3, c3, rfl, G3.out, V3.out, F3.out⟩

end Go.Proofs.YtgpdnoghlommeaaGreatDoor

namespace Go.Proofs.YtgpdnoghlommeaaGreatDoor

open Go.RowKit Go.Deep

/-- A type's text as letters. -/
def sayL : Nat → F → List UInt8
  | 0, _ => []
  | r + 1, f => if len f = 0 then [105] else 40 :: (sayL r (kid f 0) ++ (44 :: (sayL r (kid f 1) ++ [41])))
theorem nil_of {f : F} (h : len f = 0) : f = .nil := by
  cases f with
  | nil => rfl
  | node _ _ _ k r => simp [len] at h
theorem fits_shape {r : Nat} {f : F} (h : fits (r + 1) f = true) : len f = 0 ∨ (len f = 2 ∧ fits r (kid f 0) = true ∧ fits r (kid f 1) = true) := by
  simp only [fits, Bool.or_eq_true, Bool.and_eq_true, beq_iff_eq] at h
  exact h
/-- No text of a type is another one's beginning. -/
theorem sayL_same : ∀ (r : Nat) (f g : F) (x y : List UInt8), fits r f = true → fits r g = true → sayL r f ++ x = sayL r g ++ y → eqT f g = true ∧ x = y
  | 0, _, _, _, _, h, _, _ => by simp [fits] at h
  | r + 1, f, g, x, y, hf, hg, e => by
    rcases fits_shape hf with f0 | ⟨f2, fa, fb⟩ <;> rcases fits_shape hg with g0 | ⟨g2, ga, gb⟩
    · rw [sayL, sayL, if_pos f0, if_pos g0] at e
      rw [nil_of f0, nil_of g0]
      exact ⟨rfl, by simpa using e⟩
    · rw [sayL, sayL, if_pos f0, if_neg (by omega)] at e
      simp at e
    · rw [sayL, sayL, if_neg (by omega), if_pos g0] at e
      simp at e
    · rw [sayL, sayL, if_neg (by omega), if_neg (by omega)] at e
      simp only [List.cons_append, List.append_assoc, List.cons.injEq, true_and] at e
      obtain ⟨e1, e2⟩ := sayL_same r _ _ _ _ fa ga e
      simp only [List.cons.injEq, true_and] at e2
      obtain ⟨e3, e4⟩ := sayL_same r _ _ _ _ fb gb e2
      simp only [List.nil_append, List.cons.injEq, true_and] at e4
      exact ⟨by rw [eqT_two f2 g2, e1, e3]; rfl, e4⟩
/-- The texts of types from the i-th on, each behind a blank. -/
def rowL (l : F) : Nat → Nat → List UInt8
  | _, 0 => []
  | i, n + 1 => 32 :: (sayL 4 (kid l i) ++ rowL l (i + 1) n)
theorem rowL_head (l : F) (i n : Nat) : rowL l i n = [] ∨ ∃ x, rowL l i n = 32 :: x := by
  cases n with
  | zero => exact Or.inl rfl
  | succ n => exact Or.inr ⟨_, rfl⟩
theorem rowL_same (l l' : F) : ∀ (n n' i : Nat), (∀ j, j < n → fits 4 (kid l (i + j)) = true) → (∀ j, j < n' → fits 4 (kid l' (i + j)) = true) → rowL l i n = rowL l' i n' → n = n' ∧ ∀ j, j < n → eqT (kid l (i + j)) (kid l' (i + j)) = true
  | 0, 0, _, _, _, _ => ⟨rfl, fun j hj => by omega⟩
  | 0, n' + 1, _, _, _, e => by simp [rowL] at e
  | n + 1, 0, _, _, _, e => by simp [rowL] at e
  | n + 1, n' + 1, i, h, h', e => by
    rw [rowL, rowL] at e
    simp only [List.cons.injEq, true_and] at e
    obtain ⟨e1, e2⟩ := sayL_same 4 _ _ _ _ (h 0 (by omega)) (h' 0 (by omega)) e
    obtain ⟨e3, e4⟩ := rowL_same l l' n n' (i + 1) (fun j hj => by have := h (j + 1) (by omega); rwa [show i + (j + 1) = i + 1 + j by omega] at this) (fun j hj => by have := h' (j + 1) (by omega); rwa [show i + (j + 1) = i + 1 + j by omega] at this) e2
    refine ⟨by omega, fun j hj => ?_⟩
    cases j with
    | zero => exact e1
    | succ j => have := e4 j (by omega); rwa [show i + 1 + j = i + (j + 1) by omega] at this
theorem word_split : ∀ (a b x y : List UInt8), (32 : UInt8) ∉ a → (32 : UInt8) ∉ b → (x = [] ∨ ∃ z, x = 32 :: z) → (y = [] ∨ ∃ z, y = 32 :: z) → a ++ x = b ++ y → a = b ∧ x = y
  | [], [], x, y, _, _, _, _, e => ⟨rfl, by simpa using e⟩
  | [], c :: b, x, y, _, hb, hx, _, e => by
    rcases hx with rfl | ⟨z, rfl⟩
    · simp at e
    · simp only [List.nil_append, List.cons_append, List.cons.injEq] at e
      exact absurd (List.mem_cons.2 (Or.inl e.1)) hb
  | c :: a, [], x, y, ha, _, _, hy, e => by
    rcases hy with rfl | ⟨z, rfl⟩
    · simp at e
    · simp only [List.nil_append, List.cons_append, List.cons.injEq] at e
      exact absurd (List.mem_cons.2 (Or.inl e.1.symm)) ha
  | c :: a, d :: b, x, y, ha, hb, hx, hy, e => by
    simp only [List.cons_append, List.cons.injEq] at e
    obtain ⟨e1, e2⟩ := word_split a b x y (fun h => ha (List.mem_cons_of_mem _ h)) (fun h => hb (List.mem_cons_of_mem _ h)) hx hy e.2
    exact ⟨by rw [e.1, e1], e2⟩
/-- A call's text tells the function and the types. -/
theorem call_same {s s' : List UInt8} {l l' : F} (hs : (32 : UInt8) ∉ s) (hs' : (32 : UInt8) ∉ s') (hl : fitL l) (hl' : fitL l') (e : s ++ rowL l 0 (len l) = s' ++ rowL l' 0 (len l')) : s = s' ∧ len l = len l' ∧ ∀ j, j < len l → eqT (kid l j) (kid l' j) = true := by
  obtain ⟨e1, e2⟩ := word_split s s' _ _ hs hs' (rowL_head _ _ _) (rowL_head _ _ _) e
  obtain ⟨e3, e4⟩ := rowL_same l l' (len l) (len l') 0 (fun j hj => by rw [Nat.zero_add]; exact hl j hj) (fun j hj => by rw [Nat.zero_add]; exact hl' j hj) e2
  exact ⟨e1, e3, fun j hj => by have := e4 j hj; rwa [Nat.zero_add] at this⟩

/-- Types without what no one reads. -/
def nf : F → F
  | .nil => .nil
  | .node _ _ _ k r => .node 0 0 0 (nf k) (nf r)
theorem len_nf : ∀ f : F, len (nf f) = len f
  | .nil => rfl
  | .node _ _ _ k r => by simp only [nf, len, len_nf r]
theorem kid_nf : ∀ (f : F) (i : Nat), kid (nf f) i = nf (kid f i)
  | .nil, i => by cases i <;> rfl
  | .node _ _ _ k r, 0 => rfl
  | .node _ _ _ k r, i + 1 => by simp only [nf, kid]; exact kid_nf r i
theorem nf_eqT : ∀ {f g : F}, eqT f g = true → nf f = nf g
  | .nil, .nil, _ => rfl
  | .node _ _ _ k r, .node _ _ _ k' r', h => by
    simp only [eqT, Bool.and_eq_true] at h
    simp only [nf, nf_eqT h.1, nf_eqT h.2]
  | .nil, .node _ _ _ _ _, h => by simp [eqT] at h
  | .node _ _ _ _ _, .nil, h => by simp [eqT] at h
theorem nf_nf : ∀ f : F, nf (nf f) = nf f
  | .nil => rfl
  | .node _ _ _ k r => by simp only [nf, nf_nf k, nf_nf r]
theorem SA_nf {w : World} {S : Nat → Prop} : ∀ (d : Nat) (f : F) (a : Option Addr), dep f < d → SA w S f a → SA w S (nf f) a
  | 0, _, _, h, _ => by omega
  | d + 1, f, a, hd, h => by
    by_cases h0 : len f = 0
    · exact Or.inl (by rw [len_nf]; exact h0)
    · obtain ⟨b, o, rfl, h1, h2, h3⟩ := SA_at h (by omega)
      exact SA_mk h1 fun i hi => by
        rw [len_nf] at hi
        obtain ⟨a', c', e, hV⟩ := h3 i hi
        refine ⟨a', c', ?_, ?_⟩
        · rw [kid_nf, len_nf]; exact e
        · rw [kid_nf]; exact SA_nf d _ _ (by have := dep_kid f i hi; omega) hV
theorem nf_ext : ∀ {f g : F}, len f = len g → (∀ j, j < len f → eqT (kid f j) (kid g j) = true) → nf f = nf g
  | .nil, .nil, _, _ => rfl
  | .nil, .node _ _ _ _ _, h, _ => by simp [len] at h
  | .node _ _ _ _ _, .nil, h, _ => by simp [len] at h
  | .node _ _ _ k r, .node _ _ _ k' r', h, hk => by
    have h0 : eqT k k' = true := hk 0 (by simp [len])
    simp only [nf, nf_eqT h0]
    congr 1
    exact nf_ext (by simp only [len] at h; omega) fun j hj => hk (j + 1) (by simp only [len]; omega)

end Go.Proofs.YtgpdnoghlommeaaGreatDoor

namespace Go.Proofs.YtgpdnoghlommeaaGreatDoor

open Go.RowKit Go.Deep

theorem nf_kid {f : F} (h : nf f = f) (i : Nat) : nf (kid f i) = kid f i := by rw [← kid_nf, h]
theorem nf_snoc : ∀ (f k : F), nf (snoc f 0 k) = snoc (nf f) 0 (nf k)
  | .nil, k => rfl
  | .node _ _ _ q r, k => by simp only [snoc, nf, nf_snoc r k]
theorem nf_opT {k : Int} {p : List Int} {l g : F} (h : nf l = l) (hpart : ∀ f g, nf f = f → partF f p = some g → nf g = g) (e : opT k p l = some g) : nf g = g := by
  unfold opT at e
  split at e
  · split at e
    · cases e; exact h
    · cases e
  · split at e
    · exact hpart _ _ (nf_kid h 0) e
    · split at e
      · split at e
        · split at e
          · cases e; exact nf_kid h 0
          · cases e
        · cases e
      · split at e
        · cases e; rfl
        · cases e
theorem nf_oneT {L : TEnv} (hL : ∀ s, nf (L s) = L s) {k : Int} {s : ByteArray} {p : List Int} {R : Option F} {g : F} (hR : ∀ l, R = some l → nf l = l) (hpart : ∀ f g, nf f = f → partF f p = some g → nf g = g) (e : oneT L k s p R = some g) : nf g = g := by
  cases R with
  | none => cases e
  | some l =>
    simp only [oneT] at e
    split at e
    · cases e; rfl
    · split at e
      · cases e; exact hL s
      · exact nf_opT (hR l rfl) hpart e
theorem nf_evT {L : TEnv} (hL : ∀ s, nf (L s) = L s) (hpart : ∀ p f g, nf f = f → partF f p = some g → nf g = g) : ∀ {f : TM} {l : F}, evT L f = some l → nf l = l
  | .nil, l, h => by cases h; rfl
  | .node x y (k, n, s, p) f r, l, h => by
    rw [evT] at h
    cases h1 : oneT L k s p (evT L f) with
    | none => rw [h1] at h; cases h
    | some v =>
      rw [h1] at h
      simp only [Option.bind_some] at h
      cases h2 : evT L r with
      | none => rw [h2] at h; cases h
      | some q =>
        rw [h2] at h; cases h
        have e1 := nf_oneT hL (fun l hl => nf_evT hL hpart hl) (hpart p) h1
        have e2 := nf_evT hL hpart h2
        simp only [nf, e1, e2]

theorem nf_part : ∀ (p : List Int) (f g : F), nf f = f → partF f p = some g → nf g = g
  | [], f, g, h, e => by cases e; exact h
  | i :: p, f, g, h, e => by
    simp only [partF] at e
    split at e
    · exact nf_part p _ _ (nf_kid h _) e
    · cases e
def canE (L : TEnv) : Prop := ∀ s, nf (L s) = L s
theorem canE_all {L : TEnv} {ns : List ByteArray} {l : F} (h : canE L) (hl : nf l = l) : ∀ k, canE (setAll L ns l k)
  | 0 => h
  | k + 1 => fun t => by
    rw [setAll, setK]
    split
    · exact nf_kid hl k
    · exact canE_all h hl k t
def canC (call : TCall) : Prop := ∀ s v r, nf v = v → call s v = some r → nf r = r
def canR (rec : TEnv → BD → TM → Option F) : Prop := ∀ L b z r, canE L → rec L b z = some r → nf r = r
theorem can_bind {call : TCall} {rec : TEnv → BD → TM → Option F} (hc : canC call) (hr : canR rec) {L : TEnv} {b : BD} {i : Nat} {r : F} (hL : canE L) (e : bindK call rec L b i = some r) : nf r = r := by
  unfold bindK at e
  cases he : evT L (bterms b i) with
  | none => rw [he] at e; cases e
  | some l =>
    rw [he] at e
    have hl := nf_evT hL nf_part he
    simp only [Option.bind_some, kindK] at e
    split at e
    · exact hc _ _ _ hl e
    · split at e
      · cases hx : rec L (bthen b i) (btsay b i) with
        | none => rw [hx] at e; cases e
        | some x =>
          rw [hx] at e
          simp only [Option.bind_some] at e
          cases hy : rec L (belse b i) (besay b i) with
          | none => rw [hy] at e; cases e
          | some y =>
            rw [hy] at e
            simp only [Option.bind_some] at e
            split at e
            · cases e; exact hr _ _ _ _ hL hx
            · cases e
      · cases e; exact hl
theorem can_env {call : TCall} {rec : TEnv → BD → TM → Option F} (hc : canC call) (hr : canR rec) {L : TEnv} {b : BD} (hL : canE L) : ∀ j L', envK call rec L b j = some L' → canE L'
  | 0, L', e => by cases e; exact hL
  | j + 1, L', e => by
    rw [envK] at e
    cases h1 : envK call rec L b j with
    | none => rw [h1] at e; cases e
    | some L1 =>
      rw [h1] at e
      simp only [Option.bind_some] at e
      have t1 := can_env hc hr hL j L1 h1
      cases h2 : bindK call rec L1 b j with
      | none => rw [h2] at e; cases e
      | some l =>
        rw [h2] at e; cases e
        exact canE_all t1 (can_bind hc hr t1 h2) _
theorem can_body {call : TCall} (hc : canC call) : ∀ d, canR (bodyK call d)
  | 0 => fun _ _ _ _ _ e => by cases e
  | d + 1 => fun L b z r hL e => by
    rw [bodyK] at e
    cases h1 : envK call (bodyK call d) L b (blen b) with
    | none => rw [h1] at e; cases e
    | some L' =>
      rw [h1] at e
      simp only [Option.bind_some] at e
      exact nf_evT (can_env hc (can_body hc d) hL _ L' h1) nf_part e
/-- What is told of a call is that of any other one of the same text. -/
theorem can_call (l : List PM) : ∀ m, canC (callK l m)
  | 0 => fun _ _ _ _ e => by cases e
  | m + 1 => fun s v r hv e => by
    rw [callK] at e
    split at e
    · exact can_body (can_call l m) 6 _ _ _ _ (canE_all (fun _ => rfl) hv _) e
    · exact can_call l m s v r hv e
theorem same_types {l l' : F} (h : nf l = l) (h' : nf l' = l') (hl : len l = len l') (hk : ∀ j, j < len l → eqT (kid l j) (kid l' j) = true) : l = l' := by
  rw [← h, ← h']; exact nf_ext hl hk

end Go.Proofs.YtgpdnoghlommeaaGreatDoor
