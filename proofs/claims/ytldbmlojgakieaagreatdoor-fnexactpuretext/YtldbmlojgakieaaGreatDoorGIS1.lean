/- Walks: the program's bodies that are ok. Walks: the program's text of bodies. Walks: the specification's text of functions. errors.Is by its contracts, where both are the fault, and where there is none (after the guide's own). -/
import Derived.Test.YtldbmlojgakieaaGreatDoorGIM7
import Derived.Test.YtldbmlojgakieaaGreatDoorBD5
import Derived.Test.YtldbmlojgakieaaGreatDoorGSZ2
import Derived.Test.YtldbmlojgakieaaGreatDoorTO2
import Derived.Shelf.SlMaps.Clone
import Derived.Deep.RegionWith
import Derived.Deep.CutRange
import Derived.Test.YtldbmlojgakieaaGreatDoorGPT4
import Derived.Test.YtldbmlojgakieaaGreatDoorGBD4
import Derived.LaidEql
import Derived.Stop.Asserts
import Derived.RowKitTokens
namespace Go.Proofs

open Go.Shelf
def Tryz.cloneC_ren : Go.Shelf.Ren := ⟨fun | 5 => 117 | 7 => 120 | n => n, fun | 23 => 175 | 25 => 9 | 3 => 3 | 4 => 4 | 20 => 20 | n => n, fun | n => n⟩
theorem Tryz.cloneC : Go.Proofs.SlLaysW.n5 Tryz.prog Tryz.cloneC_ren := {
  mixed := by kernel_rfl
  f5 := ⟨Tryz.f117.name, by decide, Tryz.func117.trans (congrArg some (by kernel_rfl))⟩
  f7 := Tryz.func120.trans (congrArg some (by kernel_rfl))
  t4 := Tryz.underlying4
  a4 := Tryz.isAgg4
  z4 := Tryz.sizeOf4
  v4 := Tryz.zeroValue4
  t20 := Tryz.underlying20
  a20 := Tryz.isAgg20
  z20 := Tryz.sizeOf20
  v20 := Tryz.zeroValue20
  t23 := Tryz.underlying175
  a23 := Tryz.isAgg175
  z23 := Tryz.sizeOf175
  v23 := Tryz.zeroValue175 }
end Go.Proofs

namespace Go.Proofs.YtldbmlojgakieaaGreatDoor

open Go.RowKit Go.Deep Go.Maps Go.WideMaps

attribute [local go_sem ↓] Go.wp_at_zero Go.wp_at_succ

theorem clone_any (w : World) (mb n : Nat) (ns : List ByteArray) (hC : CM w mb n ns) :
    Calls Tryz.prog 117 #[.map (some mb)] w fun e w' => ∃ mb', e = .returned (.map (some mb')) ∧ CM w' mb' n ns ∧ w.heap.size ≤ mb' ∧ Ex w w' := by
  obtain ⟨D, h1, h2⟩ := hC
  have hcon := AnyW.maps_Clone_owns Tryz.cloneC 9 (plainElem Tryz.prog 3) mb n D w h1
  change Calls Tryz.prog 117 _ _ _ at hcon
  exact hcon.mono fun e w' ⟨he, ho, _, hb⟩ => ⟨_, he, ⟨D, ho, h2⟩, Nat.le_refl _, hb⟩

theorem BS_at {w : World} {S : Nat → Prop} {f : BD} {a : Option Addr} (h : BS w S f a) (h0 : 0 < blen f) : ∃ b o, a = some ⟨b, o, none⟩ ∧ S b ∧ b < w.heap.size ∧ ∀ i, i < blen f → BT8 w S f i b (o + i * 8) := by
  rcases h with h | ⟨b, o, e, hb, ht⟩
  · omega
  · exact ⟨b, o, e, hb, World.block_lt_of_cell? _ _ (BC_cell ht 0 h0).1, fun i hi => BC_cell ht i hi⟩

set_option maxRecDepth 100000 in
set_option maxHeartbeats 4000000 in
theorem body_any (ea : Addr) (fs : List PM) (la : Option Addr) (lc : Nat) (hl : fs.length ≤ 1000000000) (h60 : ∀ s, (arityR fs s).1 ≤ 60) : ∀ (d mb : Nat) (ns : List ByteArray) (b : BD) (ba : Option Addr) (bc : Nat) (z : TM) (za : Option Addr) (zc : Nat) (w : World), d ≤ 6 → ns.length + 25000 * d ≤ 200000 → blen b ≤ 1000000000 → BSm b → BLm b → tlen z ≤ 1000000000 → TSm z → TLm z →
    w.cell? ⟨0, 0, none⟩ = some (EV ea) → CM w mb ns.length ns → QA w 0 fs la → BA w 0 b ba → MA w 0 z za →
    Calls Tryz.prog 101 #[.agg #[.slice la fs.length lc, .map (some mb)], .agg #[.slice ba (blen b) bc, .slice za (tlen z) zc], .int .i64 d] w (ErrP ea (bodyB fs d ns b z) w) := by
  intro d
  induction d with
  | zero =>
    intro mb ns b ba bc z za zc w _ _ _ _ _ _ _ _ hG _ _ _ _
    have g0 : ((w.alloc (.cells #[.slice la fs.length lc, .map (some mb)] 177)).alloc (.cells #[.slice ba (blen b) bc, .slice za (tlen z) zc] 59)).cell? ⟨0, 0, none⟩ = some (EV ea) := ((Ex.new _ _).alloc _).at hG
    go_enter Tryz.func101, Tryz.ntmps101
    go_wp2_with fail
    go_ret
    exact ⟨rfl, (Ex.new _ _).alloc _⟩
  | succ d ih =>
    intro mb ns b ba bc z za zc w hd hns hbl hsm hlm hzl hzm hzk hG hC hQ hB hM
    have G : Hid (∀ w', Ex w w' → w'.cell? ⟨0, 0, none⟩ = some (EV ea)) := fun w' h => h.at hG
    have Q : Hid (∀ w', Ex w w' → QA w' 0 fs la) := fun _ h => QA_below hQ h
    have B : Hid (∀ w', Ex w w' → BS w' (fun bl => bl < w.heap.size) b ba) := fun _ h => BS_ks (BS_mono hB fun _ h1 _ => h1) fun k hk _ => h.block k hk
    have M : Hid (∀ w', Ex w w' → MA w' 0 z za) := fun _ h => MA_below hM h
    have SM : Hid (BSm b) := hsm
    have LM : Hid (BLm b) := hlm
    have I : Hid _ := ih
    have H60 : Hid _ := h60
    have N : Hid (Ex w ((w.alloc (.cells #[.slice la fs.length lc, .map (some mb)] 177)).alloc (.cells #[.slice ba (blen b) bc, .slice za (tlen z) zc] 59))) := (Ex.new _ _).alloc _
    have C : Hid (∀ w', Ex ((w.alloc (.cells #[.slice la fs.length lc, .map (some mb)] 177)).alloc (.cells #[.slice ba (blen b) bc, .slice za (tlen z) zc] 59)) w' → w'.cell? ⟨w.heap.size, 0, none⟩ = some (.slice la fs.length lc) ∧ w'.cell? ⟨w.heap.size, 1, none⟩ = some (.map (some mb)) ∧ w'.cell? ⟨w.heap.size + 1, 0, none⟩ = some (.slice ba (blen b) bc) ∧ w'.cell? ⟨w.heap.size + 1, 1, none⟩ = some (.slice za (tlen z) zc)) := fun w' h => ⟨h.at (by simp), h.at (by simp), h.at (by simp), h.at (by simp)⟩
    obtain ⟨R, hR⟩ : ∃ R, R = bodyB fs (d + 1) ns b z := ⟨_, rfl⟩
    have RR : Hid (R = bodyB fs (d + 1) ns b z) := hR
    rw [← hR]
    obtain ⟨D, hD⟩ : ∃ D : Int, D = ((d + 1 : Nat) : Int) := ⟨_, rfl⟩
    have HD : Hid (D = ((d + 1 : Nat) : Int)) := hD
    rw [← hD]
    have d0 : (D == 0) = false := by rw [beq_eq_false_iff_ne]; omega
    have CL : Hid (∀ w', Ex w w' → Calls Tryz.prog 117 #[.map (some mb)] w' fun e w'' => ∃ mb', e = .returned (.map (some mb')) ∧ CM w'' mb' ns.length ns ∧ w'.heap.size ≤ mb' ∧ Ex w' w'') := fun w' h => clone_any w' mb ns.length ns (hC.ex h)
    have ZK : Hid (TSm z ∧ TLm z) := ⟨hzm, hzk⟩
    have g0 := ((Ex.new _ _).alloc _ : Ex w ((w.alloc (.cells #[.slice la fs.length lc, .map (some mb)] 177)).alloc (.cells #[.slice ba (blen b) bc, .slice za (tlen z) zc] 59))).at hG
    clear hG hC hQ hB hM hR hD hsm hlm ih hzm hzk h60
    by_cases h4 : 400 < blen b
    · have HR : Hid (R = false) := RR.out.trans (bodyB_len h4)
      have e1 : decide ((400 : Int) < (blen b : Int)) = true := decide_eq_true (by omega)
      go_enter Tryz.func101, Tryz.ntmps101
      go_wp2_with fail
      go_ret
      exact ⟨by rw [HR.out]; rfl, N.out⟩
    have e1 : decide ((400 : Int) < (blen b : Int)) = false := decide_eq_false (by omega)
    by_cases h6 : 60 < tlen z
    · have HR : Hid (R = false) := by
        show R = false
        rw [RR.out]
        show (decide (blen b ≤ 400) && (_ && termsB (nsAt ns b (blen b)) z)) = false
        rw [termsB_len h6]; simp
      have e2 : decide ((60 : Int) < (tlen z : Int)) = true := decide_eq_true (by omega)
      go_enter Tryz.func101, Tryz.ntmps101
      go_wp2_with fail
      go_ret
      exact ⟨by rw [HR.out]; rfl, N.out⟩
    have e2 : decide ((60 : Int) < (tlen z : Int)) = false := decide_eq_false (by omega)
    obtain ⟨V, hV⟩ : ∃ V, V = (w.alloc (.cells #[.slice la fs.length lc, .map (some mb)] 177)).alloc (.cells #[.slice ba (blen b) bc, .slice za (tlen z) zc] 59) := ⟨_, rfl⟩
    have HV : Hid (V = (w.alloc (.cells #[.slice la fs.length lc, .map (some mb)] 177)).alloc (.cells #[.slice ba (blen b) bc, .slice za (tlen z) zc] 59)) := hV
    rw [← hV] at N C
    have zV : V.heap.size = w.heap.size + 2 := by rw [hV]; simp only [World.size_alloc]
    have ZV : Hid (V.heap.size = w.heap.size + 2) := zV
    obtain ⟨c0, c1, c2, c3⟩ := C.out V (Ex.refl _)
    clear hV zV
    go_enter Tryz.func101, Tryz.ntmps101
    go_upto_region 3 with fail
    rw [← HV.out]
    clear HV g0
    have y0 : w.heap.size < V.heap.size := by have := ZV.out; omega
    go_cut [7] from 26 to 31 (fun p7 wx => ∃ ib mi, p7 = .pointer (some ⟨ib, 0, none⟩) ∧ wx.cell? ⟨ib, 0, none⟩ = some (.slice la fs.length lc) ∧ wx.cell? ⟨ib, 1, none⟩ = some (.map (some mi)) ∧ CM wx mi ns.length ns ∧ V.heap.size ≤ mi ∧ Ex V wx)
    case first =>
      go_region_with (first | (go_at_call 117; refine (CL.out _ (N.out.trans (by first | exact (Ex.refl _).drew | exact (Ex.refl _).drew.alloc _))).mono ?_; rintro e w5 ⟨m5, rfl, hC5, hm5, hb5⟩; have xb : Ex V w5 := (by refine Ex.trans ?_ hb5; first | exact (Ex.refl _).drew | exact (Ex.refl _).drew.alloc _); have q0 := xb.at c0; have q1 := xb.at c1; have z5 : w.heap.size < w5.heap.size := (World.block_lt_of_cell? _ _ q0); have hm6 : V.heap.size ≤ m5 := (by refine Nat.le_trans ?_ hm5; first | exact Nat.le_refl _ | exact Below.size (Ex.alloc (Ex.drew (Ex.refl V)) _) | exact Below.size (Ex.drew (Ex.alloc (Ex.refl V) _))); first | (have ob : w5.heap[V.heap.size]? = some (.cells #[.slice none 0 0, .map none] 177 (0, 0)) := hb5.blk (heap_alloc_at _ _ rfl); have oc0 : w5.cell? ⟨V.heap.size, 0, none⟩ = some (.slice none 0 0) := blk_cell ob 0; have oc1 : w5.cell? ⟨V.heap.size, 1, none⟩ = some (.map none) := blk_cell ob 1; have of0 := blk_free ob 0; have of1 := blk_free ob 1) | skip))
      all_goals
        go_wp2_with fail
        go_meet
        first
          | exact ⟨V.heap.size, m5, rfl, blk_cell (blk_set (blk_set ob (.slice la fs.length lc)) (.map (some m5))) 0, blk_cell (blk_set (blk_set ob (.slice la fs.length lc)) (.map (some m5))) 1, (hC5.blk (Below.heap_setCell _ ⟨V.heap.size, 0, none⟩ _ _ (fun e => hC5.ne oc0 e.symm))).blk (Below.heap_setCell _ ⟨V.heap.size, 1, none⟩ _ _ (fun e => hC5.ne oc0 e.symm)), hm6, (xb.set (Nat.le_refl _) _).set (Nat.le_refl _) _⟩
          | exact ⟨w5.heap.size, m5, rfl, World.cell?_alloc_new _ _ _ _, World.cell?_alloc_new _ _ _ _, hC5.ex (Ex.new _ _), hm6, xb.alloc _⟩
    case rest =>
      rename World => W2
      obtain ⟨ib, mi, rfl, i0, i1, hCi, hmi, hxi⟩ := hcut
      have X2 : Hid (Ex V W2) := hxi
      have CI : Hid (∀ w', Fr mi W2 w' → w'.cell? ⟨ib, 0, none⟩ = some (.slice la fs.length lc) ∧ w'.cell? ⟨ib, 1, none⟩ = some (.map (some mi))) := fun w' h => ⟨h.at (hCi.ne i0) i0, h.at (hCi.ne i1) i1⟩
      have EX : Hid (∀ w', Fr mi W2 w' → Ex V w') := fun w' h => h.to_ex hxi hmi
      have C2 : Hid (CM W2 mi ns.length ns) := hCi
      have ZM : Hid (V.heap.size ≤ mi) := hmi
      clear c0 c1 c2 c3 hxi i0 i1
      obtain ⟨c0, c1, c2, c3⟩ := C.out W2 X2.out
      clear hCi hmi CL
      go_wp2_with fail
      clear c0 c1 c2 c3
      go_loopw [9, 10, 35] (fun _ _ i wr => ∃ (j : Nat), j ≤ blen b ∧ i = .int .i64 j ∧ (∀ k, k < j → bindAt fs (bodyB fs d) ns b k = true) ∧ CM wr mi (nsAt ns b j).length (nsAt ns b j) ∧ Fr mi W2 wr) (fun _ _ i _ => blen b - (intOf i).toNat)
      case atStart => exact ⟨0, by omega, rfl, fun j hj => by omega, C2.out, Fr.refl _ _⟩
      case round =>
        obtain ⟨j, hj, rfl, hall, hcm, hf⟩ := hrel
        have A : Hid (∀ k, k < j → bindAt fs (bodyB fs d) ns b k = true) := hall
        have F : Hid (Fr mi W2 wr) := hf
        have E : Hid (Ex V wr) := EX.out wr hf
        have CJ : Hid (CM wr mi (nsAt ns b j).length (nsAt ns b j)) := hcm
        obtain ⟨i0, i1⟩ := CI.out wr hf
        obtain ⟨c0, c1, c2, c3⟩ := C.out wr E.out
        have g0 := G.out wr (N.out.trans E.out)
        have hlen : (nsAt ns b j).length ≤ ns.length + 60 * j := nsAt_len j fun i hi => bind_names (A.out i hi)
        have zi : ib < wr.heap.size := World.block_lt_of_cell? _ _ i0
        clear hall hcm hf
        by_cases hlt : j < blen b
        · obtain ⟨bb, o, rfl, _, hbs, hk⟩ := BS_at (B.out wr (N.out.trans E.out)) (by omega)
          obtain ⟨b0, ⟨a1, k1, b1, hnc, x1⟩, b2, ⟨a3, k3, b3, x3⟩, ⟨a4, k4, b4, x4⟩, ⟨a5, k5, b5, x5⟩, ⟨a6, k6, b6, x6⟩, ⟨a7, k7, b7, x7⟩⟩ := hk j hlt
          obtain ⟨s1, s2, s3, s4, s5, s6, s7, s8⟩ := BSm_at SM.out j hlt
          obtain ⟨t1, t2, t3⟩ := BSm_terms SM.out j hlt
          obtain ⟨l1, l2, l3, l4, l5, l6, l7, l8, l9, la', lb', lc', ld'⟩ := BLm_at LM.out j hlt
          have HI : Hid (∀ w', Ex wr w' → Calls Tryz.prog 118 #[.agg #[.slice la fs.length lc, .map (some mi)], .agg #[.int .i64 (bkind b j), .slice a1 (bnames b j).length k1, .string (bfn b j), .slice a3 (tlen (bterms b j)) k3, .slice a4 (blen (bthen b j)) k4, .slice a5 (tlen (btsay b j)) k5, .slice a6 (blen (belse b j)) k6, .slice a7 (tlen (besay b j)) k7], .int .i64 D] w' (BindingP ea mi (nsAt ns b j) (bnames b j) (bindAt fs (bodyB fs d) ns b j) w')) := fun w' h => by
            have e1 : Ex w w' := N.out.trans (E.out.trans h)
            have ks : ∀ w2, Ex wr w2 → Ks (fun bl => bl < w.heap.size) wr w2 := fun w2 h2 k hk hk2 => h2.block k hk2
            have := binding_by ea fs la lc mi (bkind b j) (bnames b j) a1 k1 (bfn b j) (bterms b j) a3 k3 (bthen b j) a4 k4 (btsay b j) a5 k5 (belse b j) a6 k6 (besay b j) a7 k7 hl (nsAt ns b j) (by omega) d (by omega) (bodyB fs d) w' (G.out w' e1) (CJ.out.ex h) (Q.out w' e1)
              (fun w2 h2 => XS_mono (XS_ks x1 fun k hk hk2 => (h2.block k (Nat.lt_of_lt_of_le hk2 h.size) (by have h3 := ZM.out; have h4 := ZV.out; have : k < w.heap.size := hk; omega)).trans (h.block k hk2)) fun _ _ _ => Nat.zero_le _) l2 (MS_mono (MS_ks x3 (ks w' h)) fun _ _ _ => Nat.zero_le _) s2 t1 l5 (H60.out _)
              (fun w2 h2 => I.out mi _ _ _ _ _ _ _ w2 (by omega) (by omega) s3 s4 l7 s5 t2 l9 (G.out w2 (e1.trans h2)) (CJ.out.ex (h.trans h2)) (Q.out w2 (e1.trans h2)) (BS_mono (BS_ks x4 (ks w2 (h.trans h2))) fun _ _ _ => Nat.zero_le _) (MS_mono (MS_ks x5 (ks w2 (h.trans h2))) fun _ _ _ => Nat.zero_le _))
              (fun w2 h2 => I.out mi _ _ _ _ _ _ _ w2 (by omega) (by omega) s6 s7 lb' s8 t3 ld' (G.out w2 (e1.trans h2)) (CJ.out.ex (h.trans h2)) (Q.out w2 (e1.trans h2)) (BS_mono (BS_ks x6 (ks w2 (h.trans h2))) fun _ _ _ => Nat.zero_le _) (MS_mono (MS_ks x7 (ks w2 (h.trans h2))) fun _ _ _ => Nat.zero_le _))
            rw [← HD.out] at this
            exact this
          have U : Hid (bindAt fs (bodyB fs d) ns b j = true → ∀ k, k < j + 1 → bindAt fs (bodyB fs d) ns b k = true) := fun h => upto_succ A.out h
          have V1 : Hid (bindAt fs (bodyB fs d) ns b j = false → R = false) := fun h => RR.out.trans (bodyB_no hlt h)
          clear hk x1 x3 x4 x5 x6 x7 s1 s2 s3 s4 s5 s6 s7 s8 t1 t2 t3 l1 l2 l3 l4 l5 l6 l7 l8 l9 la' lb' lc' ld' c0 c1 c2 c3 g0 CJ
          go_wp2_with fail
          refine Calls.mono (HI.out _ (Ex.new _ _)) ?_
          rintro e w3 ⟨rfl, hf3, hc3⟩
          have F3 : Hid (Fr mi W2 w3) := F.out.trans ((Fr.of_ex (Ex.new _ _) _).trans hf3)
          have CN : Hid (bindAt fs (bodyB fs d) ns b j = true → CM w3 mi (nsAt ns b (j + 1)).length (nsAt ns b (j + 1))) := hc3
          clear hf3 hc3 HI b0 b1 b2 b3 b4 b5 b6 b7
          obtain ⟨r, hr⟩ : ∃ r, bindAt fs (bodyB fs d) ns b j = r := ⟨_, rfl⟩
          rw [hr] at U V1 CN ⊢
          clear hr
          cases r with
          | false =>
            have HR : Hid (R = false) := V1.out rfl
            clear U V1 CN
            simp only [errV, Bool.false_eq_true, if_false]
            go_wp2_with fail
            go_ret
            exact ⟨by rw [HR.out]; rfl, N.out.trans (EX.out _ F3.out)⟩
          | true =>
            have HU : Hid _ := U.out rfl
            have CE : Hid _ := CN.out rfl
            clear U V1 CN
            simp only [errV, if_true]
            go_wp2_with fail
            go_roundw
            case rel => exact ⟨j + 1, by omega, by go_num, HU.out, CE.out, F3.out⟩
            case measure => simp [intOf]; omega
        · have hje : j = blen b := by omega
          have HR : Hid (R = kidsB (nsAt ns b j) 8 z) := by
            show R = _
            rw [RR.out, bodyB_end (by omega) (fun i hi => A.out i (by omega)), hje]
            show (decide (tlen z ≤ 60) && kidsB (nsAt ns b (blen b)) 8 z) = _
            rw [decide_eq_true (show tlen z ≤ 60 by omega)]; rfl
          have LT : Hid (∀ w', Ex wr w' → Calls Tryz.prog 119 #[.agg #[.slice la fs.length lc, .map (some mi)], .slice za (tlen z) zc, .int .i64 8] w' (ErrP ea R w')) := fun w' h => by
            rw [HR.out]
            exact terms_any ea la fs.length lc mi (nsAt ns b j).length (nsAt ns b j) 8 z za zc w' (by omega) (G.out w' (N.out.trans (E.out.trans h))) (CJ.out.ex h) (M.out w' (N.out.trans (E.out.trans h))) (by omega) ZK.out.1 ZK.out.2
          clear hje
          go_wp2_with fail
          refine Calls.mono (LT.out _ (Ex.refl _)) ?_
          rintro e w3 ⟨rfl, hb3⟩
          go_wp2_with fail
          go_ret
          exact ⟨rfl, N.out.trans (E.out.trans hb3)⟩

end Go.Proofs.YtldbmlojgakieaaGreatDoor

namespace Go.Proofs.YtldbmlojgakieaaGreatDoor

open Go.RowKit Go.Deep

attribute [local go_sem ↓] Go.wp_at_zero Go.wp_at_succ

/-- The table of powers lies below B. -/
def GB (B : Nat) : Prop := ∀ g, Tryz.prog.globalNamed "internal/strconv.uint64pow10" = some g → g < B
theorem Tab.low {w w' : World} {B : Nat} (h : Tab w) (hx : Below B w w') (hg : GB B) : Tab w' := by
  have hg0 := hg
  unfold Tab Lib.TabIs World.var? at *
  cases hn : Tryz.prog.globalNamed "internal/strconv.uint64pow10" with
  | none => rw [hn] at h; simp at h
  | some g =>
    have hl := hg0 g hn
    rw [hn] at h
    simp only [Option.bind_some] at h ⊢
    rw [hx.block g hl]; exact h
theorem Tab.gb {w : World} (h : Tab w) : GB w.heap.size := fun g hn => by
  unfold Tab Lib.TabIs World.var? at h
  rw [hn] at h
  simp only [Option.bind_some] at h
  rcases Nat.lt_or_ge g w.heap.size with h' | h'
  · exact h'
  · rw [Array.getElem?_eq_none h'] at h; simp at h

theorem MS_0 {w : World} {B : Nat} {f : TM} {a : Option Addr} (h : MS w (fun k => k < B) f a) : MA w 0 f a := MS_mono h fun _ _ _ => Nat.zero_le _
theorem XS_0 {w : World} {B : Nat} {f : List ByteArray} {a : Option Addr} (h : XS w (fun k => k < B) f a) : XA w 0 f a := XS_mono h fun _ _ _ => Nat.zero_le _

theorem bindXat_size (d : Nat) (pre : ByteArray) (b : BD) (j : Nat) : (bindXat d pre b j).size = pre.size + (bindX pre (bkind b j) (bnames b j) (bfn b j) (bterms b j) (bodyX d (pre ++ ⟨#[32]⟩) (bthen b j) (btsay b j)) (bodyX d (pre ++ ⟨#[32]⟩) (belse b j) (besay b j))).size := by rw [bindXat, ByteArray.size_append]
theorem wbind_any (B bb d : Nat) (hG : GB B) (ih : ∀ (pre t : ByteArray) (b : BD) (ba : Option Addr) (bc : Nat) (z : TM) (za : Option Addr) (zc : Nat) (w : World), pre.size + d ≤ 10 → BO d b z → bW b + tW z ≤ 1048576 → Bd B bb t w → t.size + (bodyX d pre b z).size ≤ 1000000000 → BS w (fun k => k < B) b ba → MS w (fun k => k < B) z za → Tab w → Calls Tryz.prog 42 #[.pointer (some ⟨bb, 0, none⟩), .agg #[.slice ba (blen b) bc, .slice za (tlen z) zc], .string pre] w (WrP B bb t (bodyX d pre b z) w)) (pre t : ByteArray) (b : BD) (j : Nat) (a1 : Option Addr) (k1 : Nat) (a3 : Option Addr) (k3 : Nat) (a4 : Option Addr) (k4 : Nat) (a5 : Option Addr) (k5 : Nat) (a6 : Option Addr) (k6 : Nat) (a7 : Option Addr) (k7 : Nat) (w : World)
    (hj : j < blen b) (hp : pre.size + (d + 1) ≤ 10) (hO : BOb (BO d) b j) (hz : bW b ≤ 1048576) (hBd : Bd B bb t w) (hs : t.size + (bindX pre (bkind b j) (bnames b j) (bfn b j) (bterms b j) (bodyX d (pre ++ ⟨#[32]⟩) (bthen b j) (btsay b j)) (bodyX d (pre ++ ⟨#[32]⟩) (belse b j) (besay b j))).size ≤ 1000000000)
    (x1 : XS w (fun k => k < B) (bnames b j) a1) (x3 : MS w (fun k => k < B) (bterms b j) a3) (x4 : BS w (fun k => k < B) (bthen b j) a4) (x5 : MS w (fun k => k < B) (btsay b j) a5) (x6 : BS w (fun k => k < B) (belse b j) a6) (x7 : MS w (fun k => k < B) (besay b j) a7) (ht : Tab w) :
    Calls Tryz.prog 66 #[.pointer (some ⟨bb, 0, none⟩), .agg #[.int .i64 (bkind b j), .slice a1 (bnames b j).length k1, .string (bfn b j), .slice a3 (tlen (bterms b j)) k3, .slice a4 (blen (bthen b j)) k4, .slice a5 (tlen (btsay b j)) k5, .slice a6 (blen (belse b j)) k6, .slice a7 (tlen (besay b j)) k7], .string pre] w (WrP B bb t (bindX pre (bkind b j) (bnames b j) (bfn b j) (bterms b j) (bodyX d (pre ++ ⟨#[32]⟩) (bthen b j) (btsay b j)) (bodyX d (pre ++ ⟨#[32]⟩) (belse b j) (besay b j))) w) := by
  obtain ⟨q1, q2, q3, q4⟩ := bWk_parts hj
  have hps : (pre ++ ⟨#[32]⟩ : ByteArray).size = pre.size + 1 := by rw [ByteArray.size_append]; rfl
  have TT : ∀ w', Fx B bb w w' → Calls Tryz.prog 67 #[.slice a3 (tlen (bterms b j)) k3] w' fun e w'' => e = .returned (.string (rowsX (bterms b j))) ∧ Ex w' w'' := fun w' h => termsText_any _ a3 k3 w' hO.1 (by omega) (MS_0 (MS_ks x3 h.ks)) (ht.low h.below hG)
  have NT : ∀ w', Fx B bb w w' → Calls Tryz.prog 41 #[.slice a1 (bnames b j).length k1] w' fun e w'' => e = .returned (.string (namesX (bnames b j))) ∧ Ex w' w'' := fun w' h => namesText_any _ a1 k1 w' (by omega) (XS_0 (XS_ks x1 h.ks))
  rcases hO.2 with ⟨k1', l1⟩ | k2 | ⟨k3', p1, p2⟩
  · rw [bindX_1 k1'] at hs ⊢
    rw [k1']
    refine bind_one B bb pre t _ a1 k1 _ _ a3 k3 _ a4 k4 _ a5 k5 _ a6 k6 _ a7 k7 w hBd l1 hs TT ?_
    rcases x1 with h0 | ⟨nb, no, e, hb, hc⟩
    · omega
    · exact ⟨nb, no, e, hb, hc 0 (by omega)⟩
  · rw [bindX_2 k2] at hs ⊢
    rw [k2]
    exact bind_call B bb pre t _ a1 k1 _ _ a3 k3 _ a4 k4 _ a5 k5 _ a6 k6 _ a7 k7 w hBd hs TT NT
  · rw [bindX_3 k3'] at hs ⊢
    rw [k3']
    exact bind_if B bb pre t _ a1 k1 _ _ a3 k3 _ a4 k4 _ a5 k5 _ a6 k6 _ a7 k7 w _ _ hBd hs TT NT
      (fun t' w' h hbd hsz => ih _ t' _ a4 k4 _ a5 k5 w' (by omega) p1 (by omega) hbd hsz (BS_ks x4 h.ks) (MS_ks x5 h.ks) (ht.low h.below hG))
      (fun t' w' h hbd hsz => ih _ t' _ a6 k6 _ a7 k7 w' (by omega) p2 (by omega) hbd hsz (BS_ks x6 h.ks) (MS_ks x7 h.ks) (ht.low h.below hG))

set_option maxRecDepth 100000 in
set_option maxHeartbeats 4000000 in
theorem writeBody_any (B bb : Nat) (hG : GB B) : ∀ (d : Nat), ∀ (pre t : ByteArray) (b : BD) (ba : Option Addr) (bc : Nat) (z : TM) (za : Option Addr) (zc : Nat) (w : World), pre.size + d ≤ 10 → BO d b z → bW b + tW z ≤ 1048576 → Bd B bb t w → t.size + (bodyX d pre b z).size ≤ 1000000000 → BS w (fun k => k < B) b ba → MS w (fun k => k < B) z za → Tab w → Calls Tryz.prog 42 #[.pointer (some ⟨bb, 0, none⟩), .agg #[.slice ba (blen b) bc, .slice za (tlen z) zc], .string pre] w (WrP B bb t (bodyX d pre b z) w) := by
  intro d
  induction d with
  | zero => intro pre t b ba bc z za zc w _ h; exact h.elim
  | succ d ih =>
    intro pre t b ba bc z za zc w hp h hz hBd hs hB hM ht
    have hlt := hBd.lt
    have hle : B ≤ w.heap.size := Nat.le_trans hBd.le (Nat.le_of_lt hlt)
    have N : Hid (Ex w (w.alloc (.cells #[.slice ba (blen b) bc, .slice za (tlen z) zc] 59))) := Ex.new _ _
    have HB1 : Hid (B ≤ (w.alloc (.cells #[.slice ba (blen b) bc, .slice za (tlen z) zc] 59)).heap.size) := by show _ ≤ _; rw [World.size_alloc]; omega
    have FN : Hid (∀ w', Fx B bb (w.alloc (.cells #[.slice ba (blen b) bc, .slice za (tlen z) zc] 59)) w' → Fx B bb w w') := fun w' h => (Fx.of_ex hle (Ex.new _ _)).trans h
    have C : Hid (∀ w', Fx B bb (w.alloc (.cells #[.slice ba (blen b) bc, .slice za (tlen z) zc] 59)) w' → w'.cell? ⟨w.heap.size, 0, none⟩ = some (.slice ba (blen b) bc) ∧ w'.cell? ⟨w.heap.size, 1, none⟩ = some (.slice za (tlen z) zc)) := fun w' h => ⟨blk_cell (box_fx h hlt (by decide)) 0, blk_cell (box_fx h hlt (by decide)) 1⟩
    have BSK : Hid (∀ w', Fx B bb w w' → BS w' (fun k => k < B) b ba) := fun w' h => BS_ks hB h.ks
    have TB : Hid (∀ w', Fx B bb w w' → Tab w') := fun w' h => ht.low h.below hG
    have TZ : Hid (∀ w', Fx B bb w w' → Calls Tryz.prog 67 #[.slice za (tlen z) zc] w' fun e w'' => e = .returned (.string (rowsX z)) ∧ Ex w' w'') := fun w' hx => termsText_any z za zc w' h.1 (by omega) (MS_0 (MS_ks hM hx.ks)) (ht.low hx.below hG)
    have I : Hid _ := ih
    have O : Hid (∀ j, j < blen b → BOb (BO d) b j) := h.2
    have BW : Hid (bW b ≤ 1048576) := by show _ ≤ _; omega
    have HP : Hid (pre.size + (d + 1) ≤ 10) := hp
    have SZ : Hid (∀ j, j < blen b → (t ++ upX (bindXat d pre b) j).size + (bindXat d pre b j).size ≤ 1000000000) := fun j hj => by
      have h1 := hs
      rw [bodyX_at, ByteArray.size_append] at h1
      have h2 := upX_upto (bindXat d pre b) (show j + 1 ≤ blen b by omega)
      rw [upX, ByteArray.size_append] at h2
      rw [ByteArray.size_append]
      omega
    have SE : Hid ((t ++ upX (bindXat d pre b) (blen b)).size + (pre ++ ⟨#[115, 97, 121]⟩ ++ rowsX z ++ ⟨#[10]⟩).size ≤ 1000000000) := by
      have h1 := hs
      rw [bodyX_at, ByteArray.size_append] at h1
      show _ ≤ _
      rw [ByteArray.size_append]
      omega
    have RX : Hid (bodyX (d + 1) pre b z = upX (bindXat d pre b) (blen b) ++ (pre ++ ⟨#[115, 97, 121]⟩ ++ rowsX z ++ ⟨#[10]⟩)) := bodyX_at _ _ _ _
    have B0 : Hid (Bd B bb (t ++ upX (bindXat d pre b) 0) (w.alloc (.cells #[.slice ba (blen b) bc, .slice za (tlen z) zc] 59))) := by show Bd _ _ _ _; rw [upX_0, cat_nil]; exact hBd.ex (Ex.new _ _)
    have hbl : blen b ≤ 1048576 := by rw [bW_sum] at hz; omega
    have LB : Hid (bb < w.heap.size) := hlt
    have hpz : pre.size ≤ 10 := by omega
    generalize bodyX (d + 1) pre b z = R at RX ⊢
    generalize rowsX z = rz at SE TZ RX
    obtain ⟨c0, c1⟩ := C.out _ (Fx.refl _ _ _)
    clear hB hM h hz ih hp hs hBd ht hlt hle
    go_enter Tryz.func42, Tryz.ntmps42
    go_wp2_with fail
    clear c0 c1
    go_loopw [7, 11] (fun _ i wr => ∃ (j : Nat), j ≤ blen b ∧ i = .int .i64 j ∧ Bd B bb (t ++ upX (bindXat d pre b) j) wr ∧ Fx B bb (w.alloc (.cells #[.slice ba (blen b) bc, .slice za (tlen z) zc] 59)) wr) (fun _ i _ => blen b - (intOf i).toNat)
    case atStart => exact ⟨0, by omega, rfl, B0.out, Fx.refl _ _ _⟩
    case round =>
      obtain ⟨j, hj, rfl, hbd, hfx⟩ := hrel
      have E : Hid (Fx B bb (w.alloc (.cells #[.slice ba (blen b) bc, .slice za (tlen z) zc] 59)) wr) := hfx
      have BDJ : Hid _ := hbd
      obtain ⟨c0, c1⟩ := C.out wr hfx
      have hlr : bb < wr.heap.size := hbd.lt
      have hBr : B ≤ wr.heap.size := Nat.le_trans hbd.le (Nat.le_of_lt hlr)
      clear hfx hbd
      by_cases hlt : j < blen b
      · obtain ⟨ob, o, rfl, _, hbs, hk⟩ := BS_at (BSK.out wr (FN.out _ E.out)) (by omega)
        obtain ⟨b0, ⟨a1, k1, b1, hnc, x1⟩, b2, ⟨a3, k3, b3, x3⟩, ⟨a4, k4, b4, x4⟩, ⟨a5, k5, b5, x5⟩, ⟨a6, k6, b6, x6⟩, ⟨a7, k7, b7, x7⟩⟩ := hk j hlt
        have hsz := SZ.out j hlt
        have HS2 : Hid ((t ++ upX (bindXat d pre b) j).size + pre.size ≤ 1000000000) := by
          show _ ≤ _
          have := hsz
          rw [bindXat_size] at this
          omega
        have BD1 : Hid (Bd B bb (t ++ upX (bindXat d pre b) j) (wr.alloc (.cells #[.int .i64 (bkind b j), .slice a1 (bnames b j).length k1, .string (bfn b j), .slice a3 (tlen (bterms b j)) k3, .slice a4 (blen (bthen b j)) k4, .slice a5 (tlen (btsay b j)) k5, .slice a6 (blen (belse b j)) k6, .slice a7 (tlen (besay b j)) k7] 103))) := Bd.ex BDJ.out (Ex.new _ _)
        have HW : Hid _ := write_any B bb _ pre _ BD1.out (by have := HS2.out; omega)
        have KB : Hid (∀ w', Fx B bb (wr.alloc (.cells #[.int .i64 (bkind b j), .slice a1 (bnames b j).length k1, .string (bfn b j), .slice a3 (tlen (bterms b j)) k3, .slice a4 (blen (bthen b j)) k4, .slice a5 (tlen (btsay b j)) k5, .slice a6 (blen (belse b j)) k6, .slice a7 (tlen (besay b j)) k7] 103)) w' → w'.heap[wr.heap.size]? = some (.cells #[.int .i64 (bkind b j), .slice a1 (bnames b j).length k1, .string (bfn b j), .slice a3 (tlen (bterms b j)) k3, .slice a4 (blen (bthen b j)) k4, .slice a5 (tlen (btsay b j)) k5, .slice a6 (blen (belse b j)) k6, .slice a7 (tlen (besay b j)) k7] 103 (0, 0))) := fun w' h => box_fx h hlr (by decide)
        have F1 : Hid (Fx B bb wr (wr.alloc (.cells #[.int .i64 (bkind b j), .slice a1 (bnames b j).length k1, .string (bfn b j), .slice a3 (tlen (bterms b j)) k3, .slice a4 (blen (bthen b j)) k4, .slice a5 (tlen (btsay b j)) k5, .slice a6 (blen (belse b j)) k6, .slice a7 (tlen (besay b j)) k7] 103))) := Fx.of_ex hBr (Ex.new _ _)
        have WB : Hid (∀ w', Fx B bb (wr.alloc (.cells #[.int .i64 (bkind b j), .slice a1 (bnames b j).length k1, .string (bfn b j), .slice a3 (tlen (bterms b j)) k3, .slice a4 (blen (bthen b j)) k4, .slice a5 (tlen (btsay b j)) k5, .slice a6 (blen (belse b j)) k6, .slice a7 (tlen (besay b j)) k7] 103)) w' → Bd B bb (t ++ upX (bindXat d pre b) j ++ pre) w' → Calls Tryz.prog 66 #[.pointer (some ⟨bb, 0, none⟩), .agg #[.int .i64 (bkind b j), .slice a1 (bnames b j).length k1, .string (bfn b j), .slice a3 (tlen (bterms b j)) k3, .slice a4 (blen (bthen b j)) k4, .slice a5 (tlen (btsay b j)) k5, .slice a6 (blen (belse b j)) k6, .slice a7 (tlen (besay b j)) k7], .string pre] w' (WrP B bb (t ++ upX (bindXat d pre b) j ++ pre) (bindX pre (bkind b j) (bnames b j) (bfn b j) (bterms b j) (bodyX d (pre ++ ⟨#[32]⟩) (bthen b j) (btsay b j)) (bodyX d (pre ++ ⟨#[32]⟩) (belse b j) (besay b j))) w')) := fun w' hx hbd => by
          have hk : Ks (fun k => k < B) wr w' := (F1.out.trans hx).ks
          refine wbind_any B bb d hG I.out pre _ b j a1 k1 a3 k3 a4 k4 a5 k5 a6 k6 a7 k7 w' hlt HP.out (O.out j hlt) BW.out hbd ?_ (XS_ks x1 hk) (MS_ks x3 hk) (BS_ks x4 hk) (MS_ks x5 hk) (BS_ks x6 hk) (MS_ks x7 hk) (TB.out _ (FN.out _ (E.out.trans (F1.out.trans hx))))
          have := hsz
          rw [bindXat_size] at this
          rw [ByteArray.size_append]
          omega
        have HU : Hid (t ++ upX (bindXat d pre b) (j + 1) = t ++ upX (bindXat d pre b) j ++ pre ++ bindX pre (bkind b j) (bnames b j) (bfn b j) (bterms b j) (bodyX d (pre ++ ⟨#[32]⟩) (bthen b j) (btsay b j)) (bodyX d (pre ++ ⟨#[32]⟩) (belse b j) (besay b j))) := by show _ = _; rw [upX, bindXat]; simp only [cat3]
        clear hk x1 x3 x4 x5 x6 x7 hsz hnc hBr HS2
        generalize bindX pre (bkind b j) (bnames b j) (bfn b j) (bterms b j) (bodyX d (pre ++ ⟨#[32]⟩) (bthen b j) (btsay b j)) (bodyX d (pre ++ ⟨#[32]⟩) (belse b j) (besay b j)) = bx at WB HU
        have zr : w.heap.size < wr.heap.size := by have := E.out.below.size; rw [World.size_alloc] at this; omega
        go_wp2_with fail
        refine Calls.mono HW.out ?_
        rintro e w1 ⟨rfl, hbd1, hfx1⟩
        have BD2 : Hid _ := hbd1
        have FX1 : Hid _ := hfx1
        have kb := KB.out _ hfx1
        have e0 := blk_cell kb 0
        have e1 := blk_cell kb 1
        have e2 := blk_cell kb 2
        have e3 := blk_cell kb 3
        have e4 := blk_cell kb 4
        have e5 := blk_cell kb 5
        have e6 := blk_cell kb 6
        have e7 := blk_cell kb 7
        simp at e0 e1 e2 e3 e4 e5 e6 e7
        clear hbd1 hfx1 HW kb b0 b1 b2 b3 b4 b5 b6 b7 c0 c1
        go_wp2_with fail
        refine Calls.mono (WB.out _ FX1.out BD2.out) ?_
        rintro e w2 ⟨rfl, hbd2, hfx2⟩
        have BD3 : Hid (Bd B bb (t ++ upX (bindXat d pre b) (j + 1)) w2) := by show Bd _ _ _ _; rw [HU.out]; exact hbd2
        have E2 : Hid _ := E.out.trans (F1.out.trans (Fx.trans FX1.out hfx2))
        clear hbd2 hfx2 WB e0 e1 e2 e3 e4 e5 e6 e7
        go_wp2_with fail
        go_roundw
        case rel => exact ⟨j + 1, by omega, by go_num, BD3.out, E2.out⟩
        case measure => simp [intOf]; omega
      · have hje : j = blen b := by omega
        have HR : Hid (t ++ R = t ++ upX (bindXat d pre b) j ++ (pre ++ ⟨#[115, 97, 121]⟩ ++ rz ++ ⟨#[10]⟩)) := by show _ = _; rw [hje, RX.out]; simp only [cat3]
        have s0 := SE.out
        rw [← hje] at s0
        clear hje
        have HW : Hid (∀ w', Bd B bb (t ++ upX (bindXat d pre b) j) w' → Calls Tryz.prog 40 #[.pointer (some ⟨bb, 0, none⟩), .string (pre ++ ⟨#[115, 97, 121]⟩ ++ rz ++ ⟨#[10]⟩)] w' fun e w'' => e = .returned (.tuple #[.int .i64 (pre ++ ⟨#[115, 97, 121]⟩ ++ rz ++ ⟨#[10]⟩).size, .nilIface]) ∧ Bd B bb (t ++ upX (bindXat d pre b) j ++ (pre ++ ⟨#[115, 97, 121]⟩ ++ rz ++ ⟨#[10]⟩)) w'' ∧ Fx B bb w' w'') := fun w' h => write_any B bb _ _ w' h (by omega)
        simp only [ByteArray.size_append] at s0
        have e1 : (⟨#[115, 97, 121]⟩ : ByteArray).size = 3 := rfl
        have e2 : (⟨#[10]⟩ : ByteArray).size = 1 := rfl
        have n1 : ¬ 9223372036854775807 < pre.size + 3 := by omega
        have n2 : ¬ 9223372036854775807 < pre.size + 3 + rz.size := by omega
        have n3 : ¬ 9223372036854775807 < pre.size + 3 + rz.size + 1 := by omega
        clear s0 e1 e2
        go_wp2_with fail
        refine Calls.mono (TZ.out _ (FN.out _ E.out)) ?_
        rintro e w1 ⟨rfl, hb1⟩
        have BD1 : Hid _ := Bd.ex BDJ.out hb1
        have E1 : Hid _ := E.out.ex HB1.out hb1
        clear hb1
        go_wp2_with fail
        refine Calls.mono (HW.out _ BD1.out) ?_
        rintro e w2 ⟨rfl, hbd2, hfx2⟩
        have BD2 : Hid (Bd B bb (t ++ R) w2) := by show Bd _ _ _ _; rw [HR.out]; exact hbd2
        have E2 : Hid _ := Fx.trans E1.out hfx2
        clear hbd2 hfx2
        go_wp2_with fail
        go_end0
        exact ⟨rfl, BD2.out, FN.out _ E2.out⟩

end Go.Proofs.YtldbmlojgakieaaGreatDoor

namespace Go.Proofs.YtldbmlojgakieaaGreatDoor

open Go.RowKit Go.Deep

attribute [local go_sem ↓] Go.wp_at_zero Go.wp_at_succ

theorem pW_le {l : List PM} {i : Nat} (h : i < l.length) : pW (l.getD i pm0) ≤ qW l := by
  have := sumN_upto (qWk l) (show i + 1 ≤ l.length by omega)
  rw [qW_sum]
  simp only [sumN] at this
  have e : qWk l i = pW (l.getD i pm0) := rfl
  omega
theorem pW_parts {l : List PM} {i : Nat} (h : i < l.length) : (l.getD i pm0).name.size ≤ qW l ∧ xW (l.getD i pm0).params ≤ qW l ∧ bW (l.getD i pm0).binds + tW (l.getD i pm0).says ≤ qW l := by
  have h1 := pW_le h
  have e : pW (l.getD i pm0) = (l.getD i pm0).name.size + xW (l.getD i pm0).params + (bW (l.getD i pm0).binds + tW (l.getD i pm0).says) := rfl
  omega
theorem fns_upto {l : List PM} (h : pureB l = true) (hz : qW l ≤ 1048576) {j : Nat} (hj : j < l.length) : (upX (fun i => fnX (l.getD i pm0)) j).size + (fnX (l.getD j pm0)).size ≤ 1000000000 := by
  have h1 := fnsX_size (BO_all h)
  unfold fnsX at h1
  have h2 := upX_upto (fun i => fnX (l.getD i pm0)) (show j + 1 ≤ l.length by omega)
  rw [upX, ByteArray.size_append] at h2
  omega

set_option maxRecDepth 100000 in
set_option maxHeartbeats 4000000 in
theorem sPureText_any (l : List PM) (a : Option Addr) (c : Nat) (w : World) (hl : l.length ≤ 1000000000) (hs : ∀ i, i < l.length → PSm (l.getD i pm0)) (hz : qW l ≤ 1048576) (hQ : QA w 0 l a) :
    Calls Tryz.prog 16 #[.slice a l.length c] w fun e w' => e = .returned (.string (textP l)) ∧ Ex w w' := by
  have Q : Hid (∀ w', Ex w w' → QA w' 0 l a) := fun _ h => QA_below hQ h
  have OK : Hid _ := sPureOk_any l a c w hl hs hQ
  have HZ : Hid (qW l ≤ 1048576) := hz
  obtain ⟨r, hr⟩ : ∃ r, pureB l = r := ⟨_, rfl⟩
  rw [hr] at OK
  have HRR : Hid (pureB l = r) := hr
  have hll : l.length ≤ 1048576 := by rw [qW_sum] at hz; omega
  clear hQ hs hz hr
  cases r with
  | false =>
    have HT : Hid (textP l = ⟨#[]⟩) := by show _ = _; rw [textP, HRR.out]; rfl
    go_enter Tryz.func16, Tryz.ntmps16
    go_wp2_with fail
    refine Calls.mono OK.out ?_
    rintro e w1 ⟨rfl, hb1⟩
    go_wp2_with fail
    go_ret
    exact ⟨ret_s HT.out.symm, hb1⟩
  | true =>
    have HT : Hid (textP l = upX (fun i => fnX (l.getD i pm0)) l.length) := by show _ = _; rw [textP, HRR.out]; rfl
    have SZ : Hid (∀ j, j < l.length → (upX (fun i => fnX (l.getD i pm0)) j).size + (fnX (l.getD j pm0)).size ≤ 1000000000) := fun j hj => fns_upto HRR.out HZ.out hj
    have BOK : Hid (∀ i, i < l.length → BO 6 (l.getD i pm0).binds (l.getD i pm0).says) := BO_all HRR.out
    clear HRR
    go_enter Tryz.func16, Tryz.ntmps16
    go_wp2_with fail
    refine Calls.mono OK.out ?_
    rintro e w1 ⟨rfl, hb1⟩
    have X0 : Hid (Ex w w1) := hb1
    clear hb1 OK
    go_wp2_with fail
    go_loopw [3, 4] (fun ov i wr => ∃ (j : Nat), j ≤ l.length ∧ i = .int .i64 j ∧ ov = .string (upX (fun i => fnX (l.getD i pm0)) j) ∧ Ex w wr) (fun _ i _ => l.length - (intOf i).toNat)
    case atStart => exact ⟨0, by omega, rfl, rfl, X0.out⟩
    case round =>
      obtain ⟨j, hj, rfl, rfl, hx⟩ := hrel
      have E : Hid (Ex w wr) := hx
      clear hx
      by_cases hlt : j < l.length
      · obtain ⟨b, o, rfl, _, hbs, hk⟩ := QA_at (Q.out wr E.out) (by omega)
        obtain ⟨b0, ⟨a1, c1, b1, hnc, x1⟩, ⟨a2, c2, b2, x2⟩, ⟨a3, c3, b3, x3⟩⟩ := hk j hlt
        obtain ⟨q1, q2, q3⟩ := pW_parts hlt
        have hq := HZ.out
        have hsz := SZ.out j hlt
        have bo := BOK.out j hlt
        have HU : Hid (upX (fun i => fnX (l.getD i pm0)) (j + 1) = upX (fun i => fnX (l.getD i pm0)) j ++ fnX (l.getD j pm0)) := rfl
        have RWN : Hid (∀ w', Ex wr w' → Calls Tryz.prog 37 #[.slice a1 (l.getD j pm0).params.length c1] w' fun e w'' => e = .returned (.string (namesX (l.getD j pm0).params)) ∧ Ex w' w'') := fun w' hx => l12Row_any _ a1 c1 w' (by omega) (XA_below x1 hx)
        have LN : Hid (∀ w', Ex wr w' → Calls Tryz.prog 38 #[.agg #[.slice a2 (blen (l.getD j pm0).binds) c2, .slice a3 (tlen (l.getD j pm0).says) c3], .string ⟨#[32]⟩] w' fun e w'' => e = .returned (.string (bodyX 6 ⟨#[32]⟩ (l.getD j pm0).binds (l.getD j pm0).says)) ∧ Ex w' w'') := fun w' hx => l12Lines_any 6 ⟨#[32]⟩ _ a2 c2 _ a3 c3 w' (by show 1 + 6 ≤ 10; omega) bo (by omega) (BA_below x2 hx) (MA_below x3 hx)
        rw [fnX] at HU hsz
        clear hk x1 x2 x3 q1 q2 q3 hq bo hnc
        generalize bodyX 6 ⟨#[32]⟩ (l.getD j pm0).binds (l.getD j pm0).says = bx at LN HU hsz
        generalize namesX (l.getD j pm0).params = nx at RWN HU hsz
        generalize (l.getD j pm0).name = nm at b0 HU hsz
        generalize (l.getD j pm0).params.length = l1 at b1 RWN
        generalize blen (l.getD j pm0).binds = l2 at b2 LN
        generalize tlen (l.getD j pm0).says = l3 at b3 LN
        generalize upX (fun i => fnX (l.getD i pm0)) j = t at HU hsz ⊢
        have HV : Hid (t ++ nm ++ nx ++ ⟨#[10]⟩ ++ bx = upX (fun i => fnX (l.getD i pm0)) (j + 1)) := by show _ = _; rw [HU.out]; simp only [cat3]
        simp only [ByteArray.size_append] at hsz
        have e1 : (⟨#[10]⟩ : ByteArray).size = 1 := rfl
        have n1 : ¬ 9223372036854775807 < t.size + nm.size := by omega
        have n2 : ¬ 9223372036854775807 < t.size + nm.size + nx.size := by omega
        have n3 : ¬ 9223372036854775807 < t.size + nm.size + nx.size + 1 := by omega
        have n4 : ¬ 9223372036854775807 < t.size + nm.size + nx.size + 1 + bx.size := by omega
        have d1 : (0 : Int) ≤ (j : Int) := by omega
        have d2 : (j : Int) < (l.length : Int) := by omega
        have KX : Hid (∀ w', Ex wr w' → Ex w w' ∧ w'.cell? ⟨b, o + j * 4, none⟩ = some (.string nm) ∧ w'.cell? ⟨b, o + j * 4 + 1, none⟩ = some (.slice a1 l1 c1) ∧ w'.cell? ⟨b, o + j * 4 + 2, none⟩ = some (.slice a2 l2 c2) ∧ w'.cell? ⟨b, o + j * 4 + 3, none⟩ = some (.slice a3 l3 c3)) := fun w' h => ⟨E.out.trans h, h.at b0, h.at b1, h.at b2, h.at b3⟩
        clear hsz HU e1
        go_wp2_with fail
        go_region_held3 (fun w' => Ex wr w' ∧ w'.cell? ⟨b, o + j * 4, none⟩ = some (.string nm) ∧ w'.cell? ⟨b, o + j * 4 + 1, none⟩ = some (.slice a1 l1 c1) ∧ w'.cell? ⟨b, o + j * 4 + 2, none⟩ = some (.slice a2 l2 c2) ∧ w'.cell? ⟨b, o + j * 4 + 3, none⟩ = some (.slice a3 l3 c3)) ((refine (fun (h : Ex wr _) => ⟨h, (KX.out _ h).2⟩) ?_; first | exact (Ex.refl _).drew | exact (And.left ‹Ex _ _ ∧ _›) | exact Ex.trans (And.left ‹Ex _ _ ∧ _›) ‹Ex _ _›)) (first | (go_at_call 37; refine (RWN.out _ (And.left ‹Ex _ _ ∧ _›)).mono ?_; rintro e w2 ⟨rfl, hb2⟩) | (go_at_call 38; refine (LN.out _ (And.left ‹Ex _ _ ∧ _›)).mono ?_; rintro e w3 ⟨rfl, hb3⟩))
        go_wp2_with fail
        go_roundw
        case rel => exact ⟨j + 1, by omega, by go_num, by rw [HV.out], E.out.trans (And.left ‹Ex _ _ ∧ _›)⟩
        case measure => simp [intOf]; omega
      · have hje : j = l.length := by omega
        have HR : Hid (textP l = upX (fun i => fnX (l.getD i pm0)) j) := by show _ = _; rw [HT.out, hje]
        clear hje
        go_wp2_with fail
        go_ret
        exact ⟨ret_s HR.out.symm, E.out⟩

end Go.Proofs.YtldbmlojgakieaaGreatDoor

namespace Go.Proofs.YtldbmlojgakieaaGreatDoor

open Go.RowKit Go.Deep Go.Extern.Stop Go.Stop Go.Extern

attribute [local go_sem ↓] Go.wp_at_zero Go.wp_at_succ

theorem Tryz.isTypeOf (v : Value) (w : World) : (Extern.ReflectliteType.typeOf #[.iface 233 v]).run Tryz.prog w = .ok (.iface 141 (.agg #[.pointer (some ⟨6, 233, none⟩)])) w := by kernel_rfl
/-- What the model answers for rtype's Comparable. -/
def cmpE : Array Value → Sem Value := Extern.ReflectliteType.method fun t => do Extern.Rtype.noPackHeld "Comparable" t; pure (.bool (← typeInfo t).comparable)
theorem Tryz.isComparable (w : World) : (cmpE #[.agg #[.pointer (some ⟨6, 233, none⟩)]]).run Tryz.prog w = .ok (.bool true) w := by kernel_rfl
theorem Tryz.isMethodComparable (v : Value) (w : World) : (Go.method 367 141 v "Comparable").run Tryz.prog w = .ok (183, v) w := by kernel_rfl
theorem Tryz.isComp : (Tryz.prog.info? 233).map (·.comparable) = some true := by kernel_rfl
theorem Tryz.isSize : (Tryz.prog.info? 256).map (·.size) = some 1 := by kernel_rfl

set_option maxRecDepth 100000 in
/-- errors.Is(x, x), x a pointer to an errors.errorString. -/
theorem is_same (a : Addr) (w : World) :
    Calls Tryz.prog 28 #[EV a, EV a] w fun e w' => e = .returned (.bool true) ∧ Ex w w' := by
  obtain ⟨i, hi, hcmp⟩ := Option.map_eq_some_iff.1 Tryz.isComp
  obtain ⟨j, hj, hjs⟩ := Option.map_eq_some_iff.1 Tryz.isSize
  have h8 := @run_callFunc_extern Tryz.prog 59 _ Extern.ReflectliteType.typeOf Tryz.func59 (by kernel_rfl) (by kernel_rfl) (by kernel_rfl) (by kernel_rfl)
  have h32 := @run_callFunc_extern Tryz.prog 183 _ cmpE Tryz.func183 (by kernel_rfl) (by kernel_rfl) (by kernel_rfl) (by kernel_rfl)
  have tT := Tryz.isTypeOf
  have cT := Tryz.isComparable
  have mR := Tryz.isMethodComparable
  have heq := run_eql_iface_ptr_same (P := Tryz.prog) w a Tryz.underlying70 Tryz.underlying233 hi hcmp hj
  go_enter Tryz.func28, Tryz.ntmps28
  go_wp2
  refine wp_loop_rounds 1 ?_
  rw [rounds_succ]
  go_wp2
  go_ret
  exact ⟨rfl, Ex.refl _⟩

set_option maxRecDepth 100000 in
/-- errors.Is(nil, x). -/
theorem is_nil (b : Addr) (w : World) :
    Calls Tryz.prog 28 #[.nilIface, EV b] w fun e w' => e = .returned (.bool false) ∧ Ex w w' := by
  have hn := run_eql_iface_nil_left (P := Tryz.prog) w 233 (.pointer (some b)) Tryz.underlying70
  go_enter Tryz.func28, Tryz.ntmps28
  go_wp2
  go_ret
  exact ⟨rfl, Ex.refl _⟩

end Go.Proofs.YtldbmlojgakieaaGreatDoor
