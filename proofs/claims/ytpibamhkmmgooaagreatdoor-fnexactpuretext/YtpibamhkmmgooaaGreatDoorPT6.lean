/- Walks: the program's text of functions. -/
import Derived.Test.YtpibamhkmmgooaaGreatDoorPT5

import Derived.Test.YtpibamhkmmgooaaGreatDoorTX6

import Derived.Test.YtpibamhkmmgooaaGreatDoorIM9

namespace Go.Proofs.YtpibamhkmmgooaaGreatDoor

open Go.RowKit Go.Deep

attribute [local go_sem ↓] Go.wp_at_zero Go.wp_at_succ

theorem QS_at {w : World} {S : Nat → Prop} {l : List PM} {a : Option Addr} (h : QS w S l a) (h0 : 0 < l.length) : ∃ b o, a = some ⟨b, o, none⟩ ∧ S b ∧ b < w.heap.size ∧ ∀ i, i < l.length → PT w S (l.getD i pm0) b (o + i * 4) := by
  rcases h with h | ⟨b, o, e, hb, ht⟩
  · omega
  · exact ⟨b, o, e, hb, World.block_lt_of_cell? _ _ (ht 0 h0).1, ht⟩

set_option maxRecDepth 100000 in
set_option maxHeartbeats 4000000 in
theorem iPureText_any (l : List PM) (a : Option Addr) (c : Nat) (w : World) (hz : qW l ≤ 1048576) (hQ : QA w 0 l a) (ht : Tab w)
    (hOK : Calls Tryz.prog 14 #[.slice a l.length c] w fun e w' => e = .returned (.bool (pureB l)) ∧ Ex w w') :
    Calls Tryz.prog 7 #[.slice a l.length c] w fun e w' => e = .returned (.string (textP l)) ∧ Ex w w' := by
  have Q : Hid (∀ w', Ex w w' → QA w' 0 l a) := fun _ h => QA_below hQ h
  have TB : Hid (∀ w', Ex w w' → Tab w') := fun _ h => ht.ex h
  have HZ : Hid (qW l ≤ 1048576) := hz
  obtain ⟨r, hr⟩ : ∃ r, pureB l = r := ⟨_, rfl⟩
  rw [hr] at hOK
  have OK : Hid _ := hOK
  have HRR : Hid (pureB l = r) := hr
  have hll : l.length ≤ 1048576 := by rw [qW_sum] at hz; omega
  clear hQ ht hz hr hOK
  cases r with
  | false =>
    have HT : Hid (textP l = ⟨#[]⟩) := by show _ = _; rw [textP, HRR.out]; rfl
    go_enter Tryz.func7, Tryz.ntmps7
    go_wp2_with fail
    refine Calls.mono OK.out ?_
    rintro e w1 ⟨rfl, hb1⟩
    go_wp2_with fail
    go_ret
    exact ⟨ret_s HT.out.symm, hb1⟩
  | true =>
    have HT : Hid (textP l = upX (fun i => fnX (l.getD i pm0)) l.length) := by show _ = _; rw [textP, HRR.out]; rfl
    have SZ : Hid (∀ j, j < l.length → (upX (fun i => fnX (l.getD i pm0)) j).size + (fnX (l.getD j pm0)).size ≤ 1000000000) := fun j hj => fns_upto HRR.out HZ.out hj
    have BOK : Hid (∀ i, i < l.length → BO 6 (l.getD i pm0).binds (l.getD i pm0).says) := BO_all HRR.out
    clear HRR
    go_enter Tryz.func7, Tryz.ntmps7
    go_wp2_with fail
    refine Calls.mono OK.out ?_
    rintro e w1 ⟨rfl, hb1⟩
    have X0 : Hid (Ex w w1) := hb1
    have TB1 : Tab w1 := TB.out _ hb1
    have HG : Hid (GB w1.heap.size) := TB1.gb
    have q1 : QS w1 (fun k => k < w1.heap.size) l a := QS_mono (Q.out _ hb1) fun k hk _ => hk
    have BN : Hid _ := Bd.new w1
    have N1 : Hid (Ex w1 (w1.alloc (.cells #[.pointer none, .slice none 0 0] 50))) := Ex.new _ _
    have HB1 : Hid (w1.heap.size ≤ (w1.alloc (.cells #[.pointer none, .slice none 0 0] 50)).heap.size) := N1.out.size
    have E1 : Hid (∀ w', Fx w1.heap.size w1.heap.size (w1.alloc (.cells #[.pointer none, .slice none 0 0] 50)) w' → Ex w1 w') := fun w' h => Below.trans N1.out h.below
    have QB : Hid (∀ w', Ex w1 w' → QS w' (fun k => k < w1.heap.size) l a) := fun w' h => QS_ks q1 fun k hk _ => h.block k hk
    have TB2 : Hid (∀ w', Ex w1 w' → Tab w') := fun w' h => TB1.ex h
    clear hb1 OK q1 TB1 TB Q
    go_wp2_with fail
    go_loopw [5, 11] (fun _ i wr => ∃ (j : Nat), j ≤ l.length ∧ i = .int .i64 j ∧ Bd w1.heap.size w1.heap.size (upX (fun i => fnX (l.getD i pm0)) j) wr ∧ Fx w1.heap.size w1.heap.size (w1.alloc (.cells #[.pointer none, .slice none 0 0] 50)) wr) (fun _ i _ => l.length - (intOf i).toNat)
    case atStart => exact ⟨0, by omega, rfl, BN.out, Fx.refl _ _ _⟩
    case round =>
      obtain ⟨j, hj, rfl, hbd, hfx⟩ := hrel
      have E : Hid (Fx w1.heap.size w1.heap.size (w1.alloc (.cells #[.pointer none, .slice none 0 0] 50)) wr) := hfx
      have BDJ : Hid _ := hbd
      have hlr : w1.heap.size < wr.heap.size := hbd.lt
      clear hfx hbd
      by_cases hlt : j < l.length
      · obtain ⟨b, o, rfl, hbb, hbs, hk⟩ := QS_at (QB.out wr (E1.out _ E.out)) (by omega)
        obtain ⟨b0, ⟨a1, k1, b1, hnc, x1⟩, ⟨a2, k2, b2, x2⟩, ⟨a3, k3, b3, x3⟩⟩ := hk j hlt
        obtain ⟨q1, q2, q3⟩ := pW_parts hlt
        have hq := HZ.out
        have hsz := SZ.out j hlt
        have bo := BOK.out j hlt
        have F1 : Hid (Fx w1.heap.size w1.heap.size wr (wr.alloc (.cells #[.string (l.getD j pm0).name, .slice a1 (l.getD j pm0).params.length k1, .slice a2 (blen (l.getD j pm0).binds) k2, .slice a3 (tlen (l.getD j pm0).says) k3] 43))) := Fx.of_ex (Nat.le_of_lt hlr) (Ex.new _ _)
        have RN : Hid (∀ w', Fx w1.heap.size w1.heap.size (wr.alloc (.cells #[.string (l.getD j pm0).name, .slice a1 (l.getD j pm0).params.length k1, .slice a2 (blen (l.getD j pm0).binds) k2, .slice a3 (tlen (l.getD j pm0).says) k3] 43)) w' → Calls Tryz.prog 16 #[.slice a1 (l.getD j pm0).params.length k1] w' fun e w'' => e = .returned (.string (namesX (l.getD j pm0).params)) ∧ Ex w' w'') := fun w' hx => namesText_any _ a1 k1 w' (by omega) (XS_0 (XS_ks x1 (F1.out.trans hx).ks))
        have BDV : Hid (Bd w1.heap.size w1.heap.size (upX (fun i => fnX (l.getD i pm0)) j) (wr.alloc (.cells #[.string (l.getD j pm0).name, .slice a1 (l.getD j pm0).params.length k1, .slice a2 (blen (l.getD j pm0).binds) k2, .slice a3 (tlen (l.getD j pm0).says) k3] 43))) := Bd.ex BDJ.out (Ex.new _ _)
        have LN : Hid (∀ t' w', Fx w1.heap.size w1.heap.size (wr.alloc (.cells #[.string (l.getD j pm0).name, .slice a1 (l.getD j pm0).params.length k1, .slice a2 (blen (l.getD j pm0).binds) k2, .slice a3 (tlen (l.getD j pm0).says) k3] 43)) w' → Bd w1.heap.size w1.heap.size t' w' → t'.size + (bodyX 6 ⟨#[32]⟩ (l.getD j pm0).binds (l.getD j pm0).says).size ≤ 1000000000 → Calls Tryz.prog 17 #[.pointer (some ⟨w1.heap.size, 0, none⟩), .agg #[.slice a2 (blen (l.getD j pm0).binds) k2, .slice a3 (tlen (l.getD j pm0).says) k3], .string ⟨#[32]⟩] w' (WrP w1.heap.size w1.heap.size t' (bodyX 6 ⟨#[32]⟩ (l.getD j pm0).binds (l.getD j pm0).says) w')) := fun t' w' hx hb hs =>
          writeBody_any _ _ HG.out 6 ⟨#[32]⟩ t' _ a2 k2 _ a3 k3 w' (by show 1 + 6 ≤ 10; omega) bo (by omega) hb hs (BS_ks x2 (F1.out.trans hx).ks) (MS_ks x3 (F1.out.trans hx).ks) (TB2.out _ (E1.out _ (E.out.trans (F1.out.trans hx))))
        have VB : Hid (∀ w', Fx w1.heap.size w1.heap.size (wr.alloc (.cells #[.string (l.getD j pm0).name, .slice a1 (l.getD j pm0).params.length k1, .slice a2 (blen (l.getD j pm0).binds) k2, .slice a3 (tlen (l.getD j pm0).says) k3] 43)) w' → w'.heap[wr.heap.size]? = some (.cells #[.string (l.getD j pm0).name, .slice a1 (l.getD j pm0).params.length k1, .slice a2 (blen (l.getD j pm0).binds) k2, .slice a3 (tlen (l.getD j pm0).says) k3] 43 (0, 0))) := fun w' h => box_fx h hlr (by decide)
        have HB2 : Hid (w1.heap.size ≤ (wr.alloc (.cells #[.string (l.getD j pm0).name, .slice a1 (l.getD j pm0).params.length k1, .slice a2 (blen (l.getD j pm0).binds) k2, .slice a3 (tlen (l.getD j pm0).says) k3] 43)).heap.size) := by show _ ≤ _; rw [World.size_alloc]; omega
        have HU : Hid (upX (fun i => fnX (l.getD i pm0)) (j + 1) = upX (fun i => fnX (l.getD i pm0)) j ++ fnX (l.getD j pm0)) := rfl
        rw [fnX] at HU hsz
        clear hk x1 x2 x3 q1 q2 q3 hq bo hnc
        generalize bodyX 6 ⟨#[32]⟩ (l.getD j pm0).binds (l.getD j pm0).says = bx at LN HU hsz
        generalize namesX (l.getD j pm0).params = nx at RN HU hsz
        generalize (l.getD j pm0).name = nm at b0 HU hsz F1 RN BDV LN VB HB2
        generalize (l.getD j pm0).params.length = l1 at b1 F1 RN BDV LN VB HB2
        generalize blen (l.getD j pm0).binds = l2 at b2 F1 RN BDV LN VB HB2
        generalize tlen (l.getD j pm0).says = l3 at b3 F1 RN BDV LN VB HB2
        have HV : Hid (upX (fun i => fnX (l.getD i pm0)) j ++ (nm ++ nx ++ ⟨#[10]⟩) ++ bx = upX (fun i => fnX (l.getD i pm0)) (j + 1)) := by show _ = _; rw [HU.out]; simp only [cat3]
        generalize upX (fun i => fnX (l.getD i pm0)) j = t at HU hsz BDJ BDV HV
        simp only [ByteArray.size_append] at hsz
        have e1 : (⟨#[10]⟩ : ByteArray).size = 1 := rfl
        have HW : Hid (∀ w', Bd w1.heap.size w1.heap.size t w' → Calls Tryz.prog 15 #[.pointer (some ⟨w1.heap.size, 0, none⟩), .string (nm ++ nx ++ ⟨#[10]⟩)] w' fun e w'' => e = .returned (.tuple #[.int .i64 (nm ++ nx ++ ⟨#[10]⟩).size, .nilIface]) ∧ Bd w1.heap.size w1.heap.size (t ++ (nm ++ nx ++ ⟨#[10]⟩)) w'' ∧ Fx w1.heap.size w1.heap.size w' w'') := fun w' h => write_any _ _ t _ w' h (by simp only [ByteArray.size_append]; omega)
        have Z2 : Hid ((t ++ (nm ++ nx ++ ⟨#[10]⟩)).size + bx.size ≤ 1000000000) := by show _ ≤ _; simp only [ByteArray.size_append]; omega
        have n1 : ¬ 9223372036854775807 < nm.size + nx.size := by omega
        have n2 : ¬ 9223372036854775807 < nm.size + nx.size + 1 := by omega
        obtain ⟨B, hB⟩ : ∃ B, B = w1.heap.size := ⟨_, rfl⟩
        have KX : Hid (∀ w', Fx w1.heap.size w1.heap.size (wr.alloc (.cells #[.string nm, .slice a1 l1 k1, .slice a2 l2 k2, .slice a3 l3 k3] 43)) w' → Fx w1.heap.size w1.heap.size (wr.alloc (.cells #[.string nm, .slice a1 l1 k1, .slice a2 l2 k2, .slice a3 l3 k3] 43)) w' ∧ w'.cell? ⟨wr.heap.size, 0, none⟩ = some (.string nm) ∧ w'.cell? ⟨wr.heap.size, 1, none⟩ = some (.slice a1 l1 k1) ∧ w'.cell? ⟨wr.heap.size, 2, none⟩ = some (.slice a2 l2 k2) ∧ w'.cell? ⟨wr.heap.size, 3, none⟩ = some (.slice a3 l3 k3)) := fun w' h => ⟨h, blk_cell (VB.out _ h) 0, blk_cell (VB.out _ h) 1, blk_cell (VB.out _ h) 2, blk_cell (VB.out _ h) 3⟩
        clear hsz HU e1 VB hB
        go_wp2_with fail
        go_region_held3 (fun w' => Fx w1.heap.size w1.heap.size (wr.alloc (.cells #[.string nm, .slice a1 l1 k1, .slice a2 l2 k2, .slice a3 l3 k3] 43)) w' ∧ w'.cell? ⟨wr.heap.size, 0, none⟩ = some (.string nm) ∧ w'.cell? ⟨wr.heap.size, 1, none⟩ = some (.slice a1 l1 k1) ∧ w'.cell? ⟨wr.heap.size, 2, none⟩ = some (.slice a2 l2 k2) ∧ w'.cell? ⟨wr.heap.size, 3, none⟩ = some (.slice a3 l3 k3)) ((refine KX.out _ ?_; first | exact (Fx.refl _ _ _).drew | exact Fx.ex (And.left ‹Fx _ _ _ _ ∧ _›) HB2.out ‹Ex _ _› | exact Fx.trans (And.left ‹Fx _ _ _ _ ∧ _›) ‹Fx _ _ _ _›)) (first | (go_at_call 16; refine (RN.out _ (And.left ‹Fx _ _ _ _ ∧ _›)).mono ?_; rintro e w2 ⟨rfl, hb1⟩; have hbd := Bd.ex BDV.out.drew hb1) | (go_at_call 15; refine (HW.out _ hbd).mono ?_; rintro e w3 ⟨rfl, hbd2, hfx2⟩))
        have BD2 : Hid _ := hbd2
        have FX2 : Hid (Fx w1.heap.size w1.heap.size (wr.alloc (.cells #[.string nm, .slice a1 l1 k1, .slice a2 l2 k2, .slice a3 l3 k3] 43)) w3) := And.left ‹Fx _ _ _ _ ∧ _›
        clear hbd hbd2 hfx2
        go_wp2_with fail
        refine Calls.mono (LN.out _ _ FX2.out BD2.out Z2.out) ?_
        rintro e w4 ⟨rfl, hbd4, hfx4⟩
        have BD4 : Hid (Bd w1.heap.size w1.heap.size (upX (fun i => fnX (l.getD i pm0)) (j + 1)) w4) := by show Bd _ _ _ _; rw [← HV.out]; exact hbd4
        have E4 : Hid _ := E.out.trans (F1.out.trans (FX2.out.trans hfx4))
        clear hbd4 hfx4
        go_wp2_with fail
        go_roundw
        case rel => exact ⟨j + 1, by omega, by go_num, BD4.out, E4.out⟩
        case measure => simp [intOf]; omega
      · have hje : j = l.length := by omega
        have W : Hid (Calls Tryz.prog 18 #[.pointer (some ⟨w1.heap.size, 0, none⟩)] wr fun e w' => e = .returned (.string (textP l)) ∧ Below w1.heap.size wr w') := by
          have := string_any BDJ.out
          rw [hje, ← HT.out] at this
          exact this
        clear hje
        go_wp2_with fail
        refine Calls.mono W.out ?_
        rintro e w2 ⟨rfl, hb⟩
        go_wp2_with fail
        go_ret
        exact ⟨rfl, X0.out.trans (Below.trans (E1.out _ E.out) hb)⟩

end Go.Proofs.YtpibamhkmmgooaaGreatDoor
