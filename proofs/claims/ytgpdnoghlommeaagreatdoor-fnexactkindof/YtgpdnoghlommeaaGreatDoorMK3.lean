/- Walks: bindings and functions written over. -/
import Derived.Test.YtgpdnoghlommeaaGreatDoorGMK2

import Derived.Test.YtgpdnoghlommeaaGreatDoorGTO1

namespace Go.Proofs.YtgpdnoghlommeaaGreatDoor

open Go.RowKit Go.Deep

attribute [local go_sem ↓] Go.wp_at_zero Go.wp_at_succ

theorem bWk_step {f : BD} {j : Nat} (h : j < blen f) : j + 1 + sumN (bWk f) (j + 1) ≤ bW f := by
  have := sumN_upto' (bWk f) (show j + 1 ≤ blen f by omega)
  rw [bW_sum]; omega
theorem qWk_step {f : List PM} {j : Nat} (h : j < f.length) : j + 1 + sumN (qWk f) (j + 1) ≤ qW f := by
  have := sumN_upto' (qWk f) (show j + 1 ≤ f.length by omega)
  rw [qW_sum]; omega

set_option maxRecDepth 100000 in
set_option maxHeartbeats 4000000 in
theorem markBindS_by {w0 : World} {S : Nat → Prop} (hS : ∀ b, S b → Unf w0 b) (f : BD) (a : Option Addr) (c : Nat) (k : Int) (hM : BS w0 S f a) (h0 : 0 ≤ k) (hk : k + (3 * bW f : Nat) ≤ 1000000000) (w : World) (hR : Rs w0 w)
    (hK : ∀ g, (∃ j, j < blen f ∧ (g = bthen f j ∨ g = belse f j)) → ∀ (a' : Option Addr) (c' : Nat) (k' : Int) (w' : World), BS w0 S g a' → 0 ≤ k' → k' + (3 * bW g : Nat) ≤ 1000000000 → Rs w0 w' → Calls Tryz.prog 36 #[.slice a' (blen g) c', .int .i64 k'] w' (MkU S k' (3 * bW g) w')) :
    Calls Tryz.prog 36 #[.slice a (blen f) c, .int .i64 k] w (MkU S k (3 * bW f) w) := by
  have M : Hid (BS w0 S f a) := hM
  have R : Hid (Rs w0 w) := hR
  have US : Hid _ := hS
  have I : Hid _ := hK
  have HK : Hid (k + (3 * bW f : Nat) ≤ 1000000000) := hk
  have hln : blen f ≤ 1000000000 := by rw [bW_sum] at hk; omega
  clear hM hR hS hk hK
  go_enter Tryz.func36, Tryz.ntmps36
  go_wp2_with fail
  go_loopw [1, 5] (fun kv i wr => ∃ (j : Nat) (x : Int), j ≤ blen f ∧ i = .int .i64 j ∧ kv = .int .i64 x ∧ k ≤ x ∧ x ≤ k + (3 * (j + sumN (bWk f) j) : Nat) ∧ FrS S w wr ∧ Rs w wr) (fun _ i _ => blen f - (intOf i).toNat)
  case atStart => exact ⟨0, k, by omega, rfl, rfl, by omega, by simp only [sumN]; omega, FrS.refl _ _, Rs.refl _⟩
  case round =>
    obtain ⟨j, x, hj, rfl, rfl, hx0, hx1, hf, hr⟩ := hrel
    have FF : Hid (FrS S w wr) := hf
    have RR : Hid (Rs w wr) := hr
    have HX : Hid (k ≤ x ∧ x ≤ k + (3 * (j + sumN (bWk f) j) : Nat)) := ⟨hx0, hx1⟩
    clear hf hr
    by_cases hlt : j < blen f
    · rcases M.out with h | ⟨b, o, rfl, hb, hc⟩
      · omega
      have HB : Hid (S b) := hb
      obtain ⟨d0, ⟨a1, c1, d1, _, x1⟩, d2, ⟨a3, c3, d3, x3⟩, ⟨a4, c4, d4, x4⟩, ⟨a5, c5, d5, x5⟩, ⟨a6, c6, d6, x6⟩, ⟨a7, c7, d7, x7⟩⟩ := BC_cell hc j hlt
      have lnx : (bnames f j).length ≤ xW (bnames f j) := Nat.le_add_right _ _
      have HL : Hid _ := lnx
      have hst := bWk_step hlt
      have hst2 := HK.out
      have ewk : bWk f j = xW (bnames f j) + (bfn f j).size + tW (bterms f j) + (bW (bthen f j) + tW (btsay f j)) + (bW (belse f j) + tW (besay f j)) := rfl
      simp only [sumN] at hst
      have hxm : x + (3 * (1 + bWk f j) : Nat) ≤ 1000000000 := by omega
      have P1 : Hid (∀ (k' : Int) (w' : World), 0 ≤ k' → k' + ((bnames f j).length : Nat) ≤ 1000000000 → Rs w0 w' → Calls Tryz.prog 35 #[.slice a1 (bnames f j).length c1, .int .i64 k'] w' (MkU S k' (bnames f j).length w')) := fun k' w' h1 h2 h3 => markTexts_u US.out _ a1 c1 k' x1 h1 h2 w' h3
      have P3 : Hid (∀ (k' : Int) (w' : World), 0 ≤ k' → k' + (3 * tW (bterms f j) : Nat) ≤ 1000000000 → Rs w0 w' → Calls Tryz.prog 37 #[.slice a3 (tlen (bterms f j)) c3, .int .i64 k'] w' (MkU S k' (3 * tW (bterms f j)) w')) := fun k' w' h1 h2 h3 => markTermS_u US.out _ a3 c3 k' x3 h1 h2 w' h3
      have P4 : Hid (∀ (k' : Int) (w' : World), 0 ≤ k' → k' + (3 * bW (bthen f j) : Nat) ≤ 1000000000 → Rs w0 w' → Calls Tryz.prog 36 #[.slice a4 (blen (bthen f j)) c4, .int .i64 k'] w' (MkU S k' (3 * bW (bthen f j)) w')) := fun k' w' h1 h2 h3 => I.out _ ⟨j, hlt, Or.inl rfl⟩ a4 c4 k' w' x4 h1 h2 h3
      have P5 : Hid (∀ (k' : Int) (w' : World), 0 ≤ k' → k' + (3 * tW (btsay f j) : Nat) ≤ 1000000000 → Rs w0 w' → Calls Tryz.prog 37 #[.slice a5 (tlen (btsay f j)) c5, .int .i64 k'] w' (MkU S k' (3 * tW (btsay f j)) w')) := fun k' w' h1 h2 h3 => markTermS_u US.out _ a5 c5 k' x5 h1 h2 w' h3
      have P6 : Hid (∀ (k' : Int) (w' : World), 0 ≤ k' → k' + (3 * bW (belse f j) : Nat) ≤ 1000000000 → Rs w0 w' → Calls Tryz.prog 36 #[.slice a6 (blen (belse f j)) c6, .int .i64 k'] w' (MkU S k' (3 * bW (belse f j)) w')) := fun k' w' h1 h2 h3 => I.out _ ⟨j, hlt, Or.inr rfl⟩ a6 c6 k' w' x6 h1 h2 h3
      have P7 : Hid (∀ (k' : Int) (w' : World), 0 ≤ k' → k' + (3 * tW (besay f j) : Nat) ≤ 1000000000 → Rs w0 w' → Calls Tryz.prog 37 #[.slice a7 (tlen (besay f j)) c7, .int .i64 k'] w' (MkU S k' (3 * tW (besay f j)) w')) := fun k' w' h1 h2 h3 => markTermS_u US.out _ a7 c7 k' x7 h1 h2 w' h3
      have D0 : Hid _ := d0
      have D1 : Hid _ := d1
      have D2 : Hid _ := d2
      have D3 : Hid _ := d3
      have D4 : Hid _ := d4
      have D5 : Hid _ := d5
      have D6 : Hid _ := d6
      have D7 : Hid _ := d7
      have HXM : Hid (x + (3 * (1 + bWk f j) : Nat) ≤ 1000000000 ∧ bWk f j = xW (bnames f j) + (bfn f j).size + tW (bterms f j) + (bW (bthen f j) + tW (btsay f j)) + (bW (belse f j) + tW (besay f j)) ∧ x + (3 * (1 + bWk f j) : Nat) ≤ k + (3 * (j + 1 + sumN (bWk f) (j + 1)) : Nat)) := ⟨hxm, ewk, by simp only [sumN]; omega⟩
      have hx00 : 0 ≤ x := by omega
      have hx10 : x ≤ 1000000000 - 3 := by omega
      clear hc hb hst hst2 ewk hxm hx0 hx1 d0 d1 d2 d3 d4 d5 d6 d7 x1 x3 x4 x5 x6 x7 lnx
      obtain ⟨y1, q1⟩ := (R.out.trans RR.out).it _ _ _ D0.out
      have u1 := Unf.free ((R.out.trans RR.out).uf b (US.out b HB.out)) (o + j * 8)
      have R1 : Hid (Rs w (wr.setCell ⟨b, o + j * 8, none⟩ (.int .i64 x))) := RR.out.trans (Rs.set_int q1 x)
      have F1 : Hid (FrS S w (wr.setCell ⟨b, o + j * 8, none⟩ (.int .i64 x))) := FF.out.set HB.out _
      have qh := (R.out.trans RR.out).sl _ _ _ _ _ D1.out
      go_wp2_with fail
      refine Calls.mono (P1.out _ _ (by omega) (by have := HXM.out; have := HL.out; omega) (R.out.trans R1.out)) ?_
      rintro e w2 ⟨x2, rfl, hl2, hu2, f2, r2⟩
      have R2 : Hid (Rs w w2) := R1.out.trans r2
      have F2 : Hid (FrS S w w2) := F1.out.trans f2
      clear q1 u1 qh
      clear f2 r2
      have hy2 : 0 ≤ x2 := by omega
      have hz2 : x2 ≤ 1000000000 := by have := HXM.out; have := HL.out; omega
      go_wp2_with fail
      refine Calls.mono (markText_any _ _ (by omega) (by have := HXM.out; have := HL.out; omega)) ?_
      rintro e w3 ⟨s3, rfl, hb3⟩
      have RA3 : Hid (Rs w w3) := R2.out.ex hb3
      have FA3 : Hid (FrS S w w3) := F2.out.trans (FrS.of_ex hb3)
      clear hb3
      obtain ⟨y2, q2⟩ := (R.out.trans RA3.out).st _ _ _ D2.out
      have u2 := Unf.free ((R.out.trans RA3.out).uf b (US.out b HB.out)) (o + j * 8 + 2)
      have R3 : Hid (Rs w (w3.setCell ⟨b, o + j * 8 + 2, none⟩ (.string s3))) := RA3.out.trans (Rs.set_str q2 s3)
      have F3 : Hid (FrS S w (w3.setCell ⟨b, o + j * 8 + 2, none⟩ (.string s3))) := FA3.out.set HB.out _
      have q3 := (R.out.trans RA3.out).sl _ _ _ _ _ D3.out
      go_wp2_with fail
      refine Calls.mono (P3.out _ _ (by omega) (by have := HXM.out; have := HL.out; omega) (R.out.trans R3.out)) ?_
      rintro e w4 ⟨x4, rfl, hl4, hu4, f4, r4⟩
      have R4 : Hid (Rs w w4) := R3.out.trans r4
      have F4 : Hid (FrS S w w4) := F3.out.trans f4
      clear q2 u2 q3
      clear f4 r4
      have hy4 : 0 ≤ x4 := by omega
      have hz4 : x4 ≤ 1000000000 := by have := HXM.out; have := HL.out; omega
      have q4 := (R.out.trans R4.out).sl _ _ _ _ _ D4.out
      go_wp2_with fail
      refine Calls.mono (P4.out _ _ (by omega) (by have := HXM.out; have := HL.out; omega) (R.out.trans R4.out)) ?_
      rintro e w5 ⟨x5, rfl, hl5, hu5, f5, r5⟩
      have R5 : Hid (Rs w w5) := R4.out.trans r5
      have F5 : Hid (FrS S w w5) := F4.out.trans f5
      clear q4
      clear f5 r5
      have hy5 : 0 ≤ x5 := by omega
      have hz5 : x5 ≤ 1000000000 := by have := HXM.out; have := HL.out; omega
      have q5 := (R.out.trans R5.out).sl _ _ _ _ _ D5.out
      go_wp2_with fail
      refine Calls.mono (P5.out _ _ (by omega) (by have := HXM.out; have := HL.out; omega) (R.out.trans R5.out)) ?_
      rintro e w6 ⟨x6, rfl, hl6, hu6, f6, r6⟩
      have R6 : Hid (Rs w w6) := R5.out.trans r6
      have F6 : Hid (FrS S w w6) := F5.out.trans f6
      clear q5
      clear f6 r6
      have hy6 : 0 ≤ x6 := by omega
      have hz6 : x6 ≤ 1000000000 := by have := HXM.out; have := HL.out; omega
      have q6 := (R.out.trans R6.out).sl _ _ _ _ _ D6.out
      go_wp2_with fail
      refine Calls.mono (P6.out _ _ (by omega) (by have := HXM.out; have := HL.out; omega) (R.out.trans R6.out)) ?_
      rintro e w7 ⟨x7, rfl, hl7, hu7, f7, r7⟩
      have R7 : Hid (Rs w w7) := R6.out.trans r7
      have F7 : Hid (FrS S w w7) := F6.out.trans f7
      clear q6
      clear f7 r7
      have hy7 : 0 ≤ x7 := by omega
      have hz7 : x7 ≤ 1000000000 := by have := HXM.out; have := HL.out; omega
      have q7 := (R.out.trans R7.out).sl _ _ _ _ _ D7.out
      go_wp2_with fail
      refine Calls.mono (P7.out _ _ (by omega) (by have := HXM.out; have := HL.out; omega) (R.out.trans R7.out)) ?_
      rintro e w8 ⟨x8, rfl, hl8, hu8, f8, r8⟩
      have R8 : Hid (Rs w w8) := R7.out.trans r8
      have F8 : Hid (FrS S w w8) := F7.out.trans f8
      clear q7
      clear f8 r8
      have hy8 : 0 ≤ x8 := by omega
      have hz8 : x8 ≤ 1000000000 := by have := HXM.out; have := HL.out; omega
      have HXE : Hid (k ≤ x8 ∧ x8 ≤ k + (3 * (j + 1 + sumN (bWk f) (j + 1)) : Nat)) := by
        have := HXM.out
        have := HL.out
        have := HX.out
        show _ ∧ _
        omega
      go_wp2_with fail
      go_roundw
      case rel => exact ⟨j + 1, x8, by omega, by go_num, rfl, HXE.out.1, HXE.out.2, F8.out, R8.out⟩
      case measure => simp [intOf]; omega
    · have HJ : Hid (x ≤ k + (3 * bW f : Nat)) := by
        have e : j = blen f := by omega
        rw [e, ← bW_sum] at hx1
        exact hx1
      go_wp2_with fail
      go_ret
      exact ⟨x, rfl, HX.out.1, HJ.out, FF.out, RR.out⟩

theorem markBindS_all {w0 : World} {S : Nat → Prop} (hS : ∀ b, S b → Unf w0 b) : ∀ (d : Nat) (f : BD) (a : Option Addr) (c : Nat) (k : Int) (w : World), bdep f < d → BS w0 S f a → 0 ≤ k → k + (3 * bW f : Nat) ≤ 1000000000 → Rs w0 w →
    Calls Tryz.prog 36 #[.slice a (blen f) c, .int .i64 k] w (MkU S k (3 * bW f) w) := by
  intro d
  induction d with
  | zero => intro f a c k w hd; omega
  | succ d ih =>
    intro f a c k w hd hM h0 hk hR
    refine markBindS_by hS f a c k hM h0 hk w hR fun g hg a' c' k' w' hm hk0 hk1 hR' => ih g a' c' k' w' ?_ hm hk0 hk1 hR'
    obtain ⟨j, hj, e⟩ := hg
    have := bdep_kid f j hj
    rcases e with rfl | rfl <;> omega
theorem markBindS_u {w0 : World} {S : Nat → Prop} (hS : ∀ b, S b → Unf w0 b) (f : BD) (a : Option Addr) (c : Nat) (k : Int) (hM : BS w0 S f a) (h0 : 0 ≤ k) (hk : k + (3 * bW f : Nat) ≤ 1000000000) (w : World) (hR : Rs w0 w) :
    Calls Tryz.prog 36 #[.slice a (blen f) c, .int .i64 k] w (MkU S k (3 * bW f) w) := markBindS_all hS (bdep f + 1) f a c k w (Nat.lt_succ_self _) hM h0 hk hR

set_option maxRecDepth 100000 in
set_option maxHeartbeats 4000000 in
theorem markPureS_u {w0 : World} {S : Nat → Prop} (hS : ∀ b, S b → Unf w0 b) (f : List PM) (a : Option Addr) (c : Nat) (k : Int) (hM : QS w0 S f a) (h0 : 0 ≤ k) (hk : k + (3 * qW f : Nat) ≤ 1000000000) (w : World) (hR : Rs w0 w) :
    Calls Tryz.prog 13 #[.slice a (f.length) c, .int .i64 k] w (MkU S k (3 * qW f) w) := by
  have M : Hid (QS w0 S f a) := hM
  have R : Hid (Rs w0 w) := hR
  have US : Hid _ := hS
  have HK : Hid (k + (3 * qW f : Nat) ≤ 1000000000) := hk
  have hln : f.length ≤ 1000000000 := by rw [qW_sum] at hk; omega
  clear hM hR hS hk
  go_enter Tryz.func13, Tryz.ntmps13
  go_wp2_with fail
  go_loopw [1, 5] (fun kv i wr => ∃ (j : Nat) (x : Int), j ≤ f.length ∧ i = .int .i64 j ∧ kv = .int .i64 x ∧ k ≤ x ∧ x ≤ k + (3 * (j + sumN (qWk f) j) : Nat) ∧ FrS S w wr ∧ Rs w wr) (fun _ i _ => f.length - (intOf i).toNat)
  case atStart => exact ⟨0, k, by omega, rfl, rfl, by omega, by simp only [sumN]; omega, FrS.refl _ _, Rs.refl _⟩
  case round =>
    obtain ⟨j, x, hj, rfl, rfl, hx0, hx1, hf, hr⟩ := hrel
    have FF : Hid (FrS S w wr) := hf
    have RR : Hid (Rs w wr) := hr
    have HX : Hid (k ≤ x ∧ x ≤ k + (3 * (j + sumN (qWk f) j) : Nat)) := ⟨hx0, hx1⟩
    clear hf hr
    by_cases hlt : j < f.length
    · rcases M.out with h | ⟨b, o, rfl, hb, hc⟩
      · omega
      have HB : Hid (S b) := hb
      obtain ⟨d0, ⟨a1, c1, d1, _, x1⟩, ⟨a2, c2, d2, x2⟩, ⟨a3, c3, d3, x3⟩⟩ := hc j hlt
      have lnx : (f.getD j pm0).params.length ≤ xW (f.getD j pm0).params := Nat.le_add_right _ _
      have HL : Hid _ := lnx
      have hst := qWk_step hlt
      have hst2 := HK.out
      have ewk : qWk f j = (f.getD j pm0).name.size + xW (f.getD j pm0).params + (bW (f.getD j pm0).binds + tW (f.getD j pm0).says) := rfl
      simp only [sumN] at hst
      have hxm : x + (3 * (1 + qWk f j) : Nat) ≤ 1000000000 := by omega
      have P1 : Hid (∀ (k' : Int) (w' : World), 0 ≤ k' → k' + (((f.getD j pm0).params).length : Nat) ≤ 1000000000 → Rs w0 w' → Calls Tryz.prog 35 #[.slice a1 ((f.getD j pm0).params).length c1, .int .i64 k'] w' (MkU S k' ((f.getD j pm0).params).length w')) := fun k' w' h1 h2 h3 => markTexts_u US.out _ a1 c1 k' x1 h1 h2 w' h3
      have P2 : Hid (∀ (k' : Int) (w' : World), 0 ≤ k' → k' + (3 * bW ((f.getD j pm0).binds) : Nat) ≤ 1000000000 → Rs w0 w' → Calls Tryz.prog 36 #[.slice a2 (blen ((f.getD j pm0).binds)) c2, .int .i64 k'] w' (MkU S k' (3 * bW ((f.getD j pm0).binds)) w')) := fun k' w' h1 h2 h3 => markBindS_u US.out _ a2 c2 k' x2 h1 h2 w' h3
      have P3 : Hid (∀ (k' : Int) (w' : World), 0 ≤ k' → k' + (3 * tW ((f.getD j pm0).says) : Nat) ≤ 1000000000 → Rs w0 w' → Calls Tryz.prog 37 #[.slice a3 (tlen ((f.getD j pm0).says)) c3, .int .i64 k'] w' (MkU S k' (3 * tW ((f.getD j pm0).says)) w')) := fun k' w' h1 h2 h3 => markTermS_u US.out _ a3 c3 k' x3 h1 h2 w' h3
      clear x1 x2 x3 lnx
      obtain ⟨g, hg⟩ : ∃ g, (f.getD j pm0) = g := ⟨_, rfl⟩
      rw [hg] at P1 P2 P3 HL ewk d0 d1 d2 d3
      clear hg
      obtain ⟨gn, gp, gb, gs⟩ := g
      dsimp only at P1 P2 P3 HL ewk d0 d1 d2 d3
      have D0 : Hid _ := d0
      have D1 : Hid _ := d1
      have D2 : Hid _ := d2
      have D3 : Hid _ := d3
      have HXM : Hid (x + (3 * (1 + qWk f j) : Nat) ≤ 1000000000 ∧ qWk f j = gn.size + xW gp + (bW gb + tW gs) ∧ x + (3 * (1 + qWk f j) : Nat) ≤ k + (3 * (j + 1 + sumN (qWk f) (j + 1)) : Nat)) := ⟨hxm, ewk, by simp only [sumN]; omega⟩
      have hx00 : 0 ≤ x := by omega
      have hx10 : x ≤ 1000000000 - 3 := by omega
      clear hc hb hst hst2 ewk hxm hx0 hx1 d0 d1 d2 d3
      go_wp2_with fail
      refine Calls.mono (markText_any _ _ (by omega) (by have := HXM.out; have := HL.out; omega)) ?_
      rintro e w1 ⟨s1, rfl, hb1⟩
      have RA1 : Hid (Rs w w1) := RR.out.ex hb1
      have FA1 : Hid (FrS S w w1) := FF.out.trans (FrS.of_ex hb1)
      clear hb1
      obtain ⟨y1, q1⟩ := (R.out.trans RA1.out).st _ _ _ D0.out
      have u1 := Unf.free ((R.out.trans RA1.out).uf b (US.out b HB.out)) (o + j * 4)
      have R1 : Hid (Rs w (w1.setCell ⟨b, o + j * 4, none⟩ (.string s1))) := RA1.out.trans (Rs.set_str q1 s1)
      have F1 : Hid (FrS S w (w1.setCell ⟨b, o + j * 4, none⟩ (.string s1))) := FA1.out.set HB.out _
      have q2 := (R.out.trans RA1.out).sl _ _ _ _ _ D1.out
      go_wp2_with fail
      refine Calls.mono (P1.out _ _ (by omega) (by have := HXM.out; have := HL.out; omega) (R.out.trans R1.out)) ?_
      rintro e w2 ⟨x2, rfl, hl2, hu2, f2, r2⟩
      have R2 : Hid (Rs w w2) := R1.out.trans r2
      have F2 : Hid (FrS S w w2) := F1.out.trans f2
      clear q1 u1 q2
      clear f2 r2
      have hy2 : 0 ≤ x2 := by omega
      have hz2 : x2 ≤ 1000000000 := by have := HXM.out; have := HL.out; omega
      have q3 := (R.out.trans R2.out).sl _ _ _ _ _ D2.out
      go_wp2_with fail
      refine Calls.mono (P2.out _ _ (by omega) (by have := HXM.out; have := HL.out; omega) (R.out.trans R2.out)) ?_
      rintro e w3 ⟨x3, rfl, hl3, hu3, f3, r3⟩
      have R3 : Hid (Rs w w3) := R2.out.trans r3
      have F3 : Hid (FrS S w w3) := F2.out.trans f3
      clear q3
      clear f3 r3
      have hy3 : 0 ≤ x3 := by omega
      have hz3 : x3 ≤ 1000000000 := by have := HXM.out; have := HL.out; omega
      have q4 := (R.out.trans R3.out).sl _ _ _ _ _ D3.out
      go_wp2_with fail
      refine Calls.mono (P3.out _ _ (by omega) (by have := HXM.out; have := HL.out; omega) (R.out.trans R3.out)) ?_
      rintro e w4 ⟨x4, rfl, hl4, hu4, f4, r4⟩
      have R4 : Hid (Rs w w4) := R3.out.trans r4
      have F4 : Hid (FrS S w w4) := F3.out.trans f4
      clear q4
      clear f4 r4
      have hy4 : 0 ≤ x4 := by omega
      have hz4 : x4 ≤ 1000000000 := by have := HXM.out; have := HL.out; omega
      have HXE : Hid (k ≤ x4 ∧ x4 ≤ k + (3 * (j + 1 + sumN (qWk f) (j + 1)) : Nat)) := by
        have := HXM.out
        have := HL.out
        have := HX.out
        show _ ∧ _
        omega
      go_wp2_with fail
      go_roundw
      case rel => exact ⟨j + 1, x4, by omega, by go_num, rfl, HXE.out.1, HXE.out.2, F4.out, R4.out⟩
      case measure => simp [intOf]; omega
    · have HJ : Hid (x ≤ k + (3 * qW f : Nat)) := by
        have e : j = f.length := by omega
        rw [e, ← qW_sum] at hx1
        exact hx1
      go_wp2_with fail
      go_ret
      exact ⟨x, rfl, HX.out.1, HJ.out, FF.out, RR.out⟩

end Go.Proofs.YtgpdnoghlommeaaGreatDoor
