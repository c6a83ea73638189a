/- Walks: terms written over. -/
import Derived.Test.YthdihpcpobhadaaDoorMK1

namespace Go.Proofs.YthdihpcpobhadaaDoor

open Go.RowKit Go.Deep

attribute [local go_sem ↓] Go.wp_at_zero Go.wp_at_succ

theorem sumN_upto' (g : Nat → Nat) : ∀ {k n : Nat}, k ≤ n → sumN g k ≤ sumN g n
  | k, 0, h => by have : k = 0 := by omega
                  subst this; exact Nat.le_refl _
  | k, n + 1, h => by
    by_cases hk : k = n + 1
    · subst hk; exact Nat.le_refl _
    · have := sumN_upto' g (k := k) (n := n) (by omega)
      simp only [sumN]; omega
theorem tWk_step {f : TM} {j : Nat} (h : j < tlen f) : j + 1 + sumN (tWk f) (j + 1) ≤ tW f := by
  have := sumN_upto' (tWk f) (show j + 1 ≤ tlen f by omega)
  rw [tW_sum]; omega

set_option maxRecDepth 100000 in
set_option maxHeartbeats 4000000 in
theorem markTermS_by {w0 : World} {S : Nat → Prop} (hS : ∀ b, S b → Unf w0 b) (f : TM) (a : Option Addr) (c : Nat) (k : Int) (hM : MS w0 S f a) (h0 : 0 ≤ k) (hk : k + (3 * tW f : Nat) ≤ 1000000000) (w : World) (hR : Rs w0 w)
    (hK : ∀ j, j < tlen f → ∀ (a' : Option Addr) (c' : Nat) (k' : Int) (w' : World), Rs w0 w' → 0 ≤ k' → k' + (3 * tW (tkid f j) : Nat) ≤ 1000000000 → MS w0 S (tkid f j) a' → Calls Tryd.prog 56 #[.slice a' (tlen (tkid f j)) c', .int .i64 k'] w' (MkU S k' (3 * tW (tkid f j)) w')) :
    Calls Tryd.prog 56 #[.slice a (tlen f) c, .int .i64 k] w (MkU S k (3 * tW f) w) := by
  have M : Hid (MS w0 S f a) := hM
  have R : Hid (Rs w0 w) := hR
  have US : Hid _ := hS
  have I : Hid _ := hK
  have HK : Hid (k + (3 * tW f : Nat) ≤ 1000000000) := hk
  have hln : tlen f ≤ 1000000000 := by rw [tW_sum] at hk; omega
  clear hM hR hS hK hk
  go_enter Tryd.func56, Tryd.ntmps56
  go_wp2_with fail
  go_loopw [1, 5] (fun kv i wr => ∃ (j : Nat) (x : Int), j ≤ tlen f ∧ i = .int .i64 j ∧ kv = .int .i64 x ∧ k ≤ x ∧ x ≤ k + (3 * (j + sumN (tWk f) j) : Nat) ∧ FrS S w wr ∧ Rs w wr) (fun _ i _ => tlen f - (intOf i).toNat)
  case atStart => exact ⟨0, k, by omega, rfl, rfl, by omega, by simp only [sumN]; omega, FrS.refl _ _, Rs.refl _⟩
  case round =>
    obtain ⟨j, x, hj, rfl, rfl, hx0, hx1, hf, hr⟩ := hrel
    have F : Hid (FrS S w wr) := hf
    have RR : Hid (Rs w wr) := hr
    have HX : Hid (k ≤ x ∧ x ≤ k + (3 * (j + sumN (tWk f) j) : Nat)) := ⟨hx0, hx1⟩
    clear hf hr
    by_cases hlt : j < tlen f
    · rcases M.out with h | ⟨b, o, rfl, hb, hc⟩
      · omega
      have HB : Hid (S b) := hb
      obtain ⟨d0, d1, d2, ⟨pa, pc, d3, hp⟩, a', c', d4, hm⟩ := MC_cell hc j hlt
      have hst := tWk_step hlt
      have hst2 := HK.out
      have ewk : tWk f j = (tname f j).size + (tpath f j).length + tW (tkid f j) := rfl
      simp only [sumN] at hst
      have hxm : x + (3 * (1 + tWk f j) : Nat) ≤ 1000000000 := by omega
      have PI : Hid (∀ (k' : Int) (w' : World), 0 ≤ k' → k' + ((tpath f j).length : Nat) ≤ 1000000000 → Rs w0 w' → Calls Tryd.prog 55 #[.slice pa (tpath f j).length pc, .int .i64 k'] w' (MkU S k' (tpath f j).length w')) := fun k' w' h1 h2 h3 => markInts_u US.out _ pa pc k' hp.1 h1 h2 w' h3
      have KI : Hid (∀ (k' : Int) (w' : World), 0 ≤ k' → k' + (3 * tW (tkid f j) : Nat) ≤ 1000000000 → Rs w0 w' → Calls Tryd.prog 56 #[.slice a' (tlen (tkid f j)) c', .int .i64 k'] w' (MkU S k' (3 * tW (tkid f j)) w')) := fun k' w' h1 h2 h3 => I.out j hlt a' c' k' w' h3 h1 h2 hm
      have D1 : Hid _ := d1
      have D2 : Hid _ := d2
      have D3 : Hid _ := d3
      have D4 : Hid _ := d4
      have rr := R.out.trans RR.out
      obtain ⟨y0, q0⟩ := rr.it _ _ _ d0
      obtain ⟨y1, q1⟩ := rr.it _ _ _ d1
      have u0 := Unf.free (rr.uf b (US.out b HB.out)) (o + j * 5)
      have u1 := Unf.free (rr.uf b (US.out b HB.out)) (o + j * 5 + 1)
      have RA : Rs w (wr.setCell ⟨b, o + j * 5, none⟩ (.int .i64 x)) := RR.out.trans (Rs.set_int q0 x)
      obtain ⟨y1', q1'⟩ := (R.out.trans RA).it _ _ _ D1.out
      have RB : Hid (Rs w ((wr.setCell ⟨b, o + j * 5, none⟩ (.int .i64 x)).setCell ⟨b, o + j * 5 + 1, none⟩ (.int .i64 (x + 1)))) := RA.trans (Rs.set_int q1' (x + 1))
      have FB : Hid (FrS S w ((wr.setCell ⟨b, o + j * 5, none⟩ (.int .i64 x)).setCell ⟨b, o + j * 5 + 1, none⟩ (.int .i64 (x + 1)))) := (F.out.set HB.out _).set HB.out _
      have hx00 : 0 ≤ x := by omega
      have hx10 : x ≤ 1000000000 - 3 := by omega
      have HXM : Hid (x + (3 * (1 + tWk f j) : Nat) ≤ 1000000000 ∧ tWk f j = (tname f j).size + (tpath f j).length + tW (tkid f j) ∧ x + (3 * (1 + tWk f j) : Nat) ≤ k + (3 * (j + 1 + sumN (tWk f) (j + 1)) : Nat)) := ⟨hxm, ewk, by simp only [sumN]; omega⟩
      clear hc hb d0 d1 d2 d3 d4 hp hm hst hst2 ewk hxm rr q1' RA hx0 hx1
      go_wp2_with fail
      refine Calls.mono (markText_any _ _ (by omega) (by omega)) ?_
      rintro e w3 ⟨s, rfl, hb3⟩
      have R3 : Hid (Rs w w3) := RB.out.ex hb3
      have F3 : Hid (FrS S w w3) := FB.out.trans (FrS.of_ex hb3)
      have rr3 := R.out.trans R3.out
      obtain ⟨s2, q2⟩ := rr3.st _ _ _ D2.out
      have u2 := Unf.free (rr3.uf b (US.out b HB.out)) (o + j * 5 + 2)
      have q3 := rr3.sl _ _ _ _ _ D3.out
      have RC : Hid (Rs w (w3.setCell ⟨b, o + j * 5 + 2, none⟩ (.string s))) := R3.out.trans (Rs.set_str q2 s)
      have FC : Hid (FrS S w (w3.setCell ⟨b, o + j * 5 + 2, none⟩ (.string s))) := F3.out.set HB.out _
      clear hb3 rr3 q0 q1 u0 u1 RB FB
      go_wp2_with fail
      refine Calls.mono (PI.out _ _ (by omega) (by have := HXM.out; omega) (R.out.trans RC.out)) ?_
      rintro e w4 ⟨x4, rfl, h41, h42, f4, r4⟩
      have R4 : Hid (Rs w w4) := RC.out.trans r4
      have F4 : Hid (FrS S w w4) := FC.out.trans f4
      have q4 := (R.out.trans R4.out).sl _ _ _ _ _ D4.out
      clear f4 r4 q2 q3 u2
      go_wp2_with fail
      refine Calls.mono (KI.out _ _ (by omega) (by have := HXM.out; omega) (R.out.trans R4.out)) ?_
      rintro e w5 ⟨x5, rfl, h51, h52, f5, r5⟩
      have R5 : Hid (Rs w w5) := R4.out.trans r5
      have F5 : Hid (FrS S w w5) := F4.out.trans f5
      have HX5 : Hid (k ≤ x5 ∧ x5 ≤ k + (3 * (j + 1 + sumN (tWk f) (j + 1)) : Nat)) := by
        have := HXM.out
        have := HX.out
        show _ ∧ _
        omega
      clear f5 r5 q4
      go_wp2_with fail
      go_roundw
      case rel => exact ⟨j + 1, x5, by omega, by go_num, rfl, HX5.out.1, HX5.out.2, F5.out, R5.out⟩
      case measure => simp [intOf]; omega
    · have HJ : Hid (x ≤ k + (3 * tW f : Nat)) := by
        have e : j = tlen f := by omega
        rw [e, ← tW_sum] at hx1
        exact hx1
      go_wp2_with fail
      go_ret
      exact ⟨x, rfl, HX.out.1, HJ.out, F.out, RR.out⟩

theorem markTermS_all {w0 : World} {S : Nat → Prop} (hS : ∀ b, S b → Unf w0 b) : ∀ (d : Nat) (f : TM) (a : Option Addr) (c : Nat) (k : Int) (w : World), tdep f < d → MS w0 S f a → 0 ≤ k → k + (3 * tW f : Nat) ≤ 1000000000 → Rs w0 w →
    Calls Tryd.prog 56 #[.slice a (tlen f) c, .int .i64 k] w (MkU S k (3 * tW f) w) := by
  intro d
  induction d with
  | zero => intro f a c k w hd; omega
  | succ d ih =>
    intro f a c k w hd hM h0 hk hR
    exact markTermS_by hS f a c k hM h0 hk w hR fun j hj a' c' k' w' hR' hk0 hk1 hm => ih _ a' c' k' w' (by have := tdep_kid f j hj; omega) hm hk0 hk1 hR'
theorem markTermS_u {w0 : World} {S : Nat → Prop} (hS : ∀ b, S b → Unf w0 b) (f : TM) (a : Option Addr) (c : Nat) (k : Int) (hM : MS w0 S f a) (h0 : 0 ≤ k) (hk : k + (3 * tW f : Nat) ≤ 1000000000) (w : World) (hR : Rs w0 w) :
    Calls Tryd.prog 56 #[.slice a (tlen f) c, .int .i64 k] w (MkU S k (3 * tW f) w) := markTermS_all hS (tdep f + 1) f a c k w (Nat.lt_succ_self _) hM h0 hk hR

end Go.Proofs.YthdihpcpobhadaaDoor
