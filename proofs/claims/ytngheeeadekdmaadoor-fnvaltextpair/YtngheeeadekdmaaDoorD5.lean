/- Walks: values drawn. -/
import Derived.Test.YtngheeeadekdmaaDoorV7

import Derived.Test.YtngheeeadekdmaaDoorD4

namespace Go.Proofs.YtngheeeadekdmaaDoor

open Go.RowKit Go.Deep

open Go.WideShapes (add_plain)

attribute [local go_sem ↓] Go.wp_at_zero Go.wp_at_succ

theorem FC.ta {rb n c lo : Nat} {t : TypeId} {w0 W w : World} {f : F} {a : Option Addr} (h : FC rb n c t W w) (hT : TA w0 lo f a) (hx : Ex w0 W) (h1 : rb < lo) (h2 : w0.heap.size ≤ n) : TA w lo f a :=
  SA_mono (SA_ks (SA_ks (SA_mono (S' := fun b => lo ≤ b ∧ b < w0.heap.size) hT fun b hb hl => ⟨hl, hb⟩) fun k _ hlt => hx.block k hlt) fun k hk hlt => h.2.1 k hlt (by omega) (by omega)) fun b _ hb => hb.1
theorem FC.to_fr {rb n c : Nat} {t : TypeId} {w0 W w : World} (h : FC rb n c t W w) (hx : Fr rb w0 W) (h2 : w0.heap.size ≤ n) : Fr rb w0 w :=
  ⟨h.1.1.trans hx.os, h.1.2.1.trans hx.tape, h.1.2.2.1.trans hx.output, Nat.le_trans hx.size h.1.2.2.2, fun k hk hn => (h.2.1 k (Nat.lt_of_lt_of_le hk hx.size) hn (by omega)).trans (hx.block k hk hn)⟩
theorem FC.alloc {rb n c : Nat} {t : TypeId} {W w : World} (h : FC rb n c t W w) (hn : n ≠ rb) (o : Obj) : FC rb n c t W (w.alloc o) := h.ex (Ex.new _ _) hn

set_option maxRecDepth 100000 in
set_option maxHeartbeats 2000000 in
theorem l71Val_any : ∀ (r : Nat) (f : F) (a : Option Addr) (cap lo rb p : Nat) (w : World), r ≤ 8 → fits r f = true → rb < lo → p + tk r ≤ 100000 → TA w lo f a → Rd w rb p →
    Calls Tryd.prog 23 #[.pointer (some ⟨rb, 0, none⟩), .agg #[.slice a (len f) cap]] w fun e w' => ∃ (n : Int) (g : F) (a' : Option Addr) (q : Nat), e = .returned (.agg #[.int .i64 n, .slice a' (len g) (len g)]) ∧ VA w' w.heap.size g a' ∧ (len g = 0 → a' = none) ∧ (len g ≤ 2 ∧ Sm g) ∧ dep g < r ∧ p ≤ q ∧ q ≤ p + tk r ∧ Rd w' rb q ∧ Fr rb w w'
  | 0, f, a, cap, lo, rb, p, w, hr, hf, hlo, hp, hT, hR => by simp [fits] at hf
  | r + 1, f, a, cap, lo, rb, p, w, hr, hf, hlo, hp, hT, hR => by
    have hrb := hR.blk
    simp only [tk] at hp
    by_cases h0 : len f = 0
    · have h0' : ((len f : Int) == 0) = true := by simp [h0]
      have R : Hid (Rd w rb p) := hR
      clear h0 hf hT hR
      go_enter Tryd.func23, Tryd.ntmps23
      go_wp2_with fail
      refine (pick_any rb p 7 _ (by omega) (by omega) (by omega) (R.out.ex (((Ex.new _ _).alloc _).alloc _))).mono ?_
      rintro e w1 ⟨x, rfl, hx0, hx3, hR1, hF1⟩
      have hb1 : w1.heap[w.heap.size + 2]? = some (.cells #[.int .i64 0, .int .i64 1, .int .i64 2, .int .i64 3, .int .i64 7, .int .i64 50, .int .i64 9999] 3 (0, 0)) := hF1.blk (by omega) (heap_alloc_at _ _ (by simp))
      have hres1 : w1.heap[w.heap.size + 1]? = some (.cells #[.int .i64 0, .slice none 0 0] 25 (0, 0)) := hF1.blk (by omega) ((Ex.new _ _).blk (heap_alloc_at _ _ (by simp)))
      obtain ⟨y, hy⟩ : ∃ y : Int, w1.cell? ⟨w.heap.size + 2, x.toNat, none⟩ = some (.int .i64 y) := by
        have : x.toNat = 0 ∨ x.toNat = 1 ∨ x.toNat = 2 ∨ x.toNat = 3 ∨ x.toNat = 4 ∨ x.toNat = 5 ∨ x.toNat = 6 := by omega
        rcases this with h | h | h | h | h | h | h <;> rw [h]
        · exact ⟨0, by simp [World.cell?, hb1]⟩
        · exact ⟨1, by simp [World.cell?, hb1]⟩
        · exact ⟨2, by simp [World.cell?, hb1]⟩
        · exact ⟨3, by simp [World.cell?, hb1]⟩
        · exact ⟨7, by simp [World.cell?, hb1]⟩
        · exact ⟨50, by simp [World.cell?, hb1]⟩
        · exact ⟨9999, by simp [World.cell?, hb1]⟩
      have R1 : Hid (Rd w1 rb (p + 1)) := hR1
      have F1 : Hid (Fr rb w w1) := Fr.trans (Fr.of_ex (((Ex.new _ _).alloc _).alloc _) _) hF1
      have c0 := two_cell0 hres1
      have c1 := two_cell1 hres1
      have c2 := two_free (i := 0) hres1
      have c3 := two_free (i := 1) hres1
      clear hR1 hF1 hb1
      go_wp2_with fail
      have hb2 := two_set (u' := .int .i64 y) (v' := .slice none 0 0) hres1
      have hr0 := two_cell0 hb2
      have hr1 := two_cell1 hb2
      exact bodyPost_ret (v := .agg #[.int .i64 y, .slice none 0 0]) (by simp [results, Tryd.results23, go_sem, hr0, hr1]) rfl ⟨y, .nil, none, p + 1, rfl, Or.inl rfl, fun _ => rfl, ⟨by simp [len], trivial⟩, by simp [dep], by omega, by simp only [tk]; omega, (R1.out.set (by show rb < w.heap.size + 1; omega) _).set (by show rb < w.heap.size + 1; omega) _, (F1.out.set (Or.inr (Nat.le_succ _)) _).set (Or.inr (Nat.le_succ _)) _⟩
    · have h2 : len f = 2 := by have := fits_len hf; omega
      rw [fits_two h2, Bool.and_eq_true] at hf
      obtain ⟨b, o, rfl, hlo', hbs, hkk⟩ := TA_at hT (by omega)
      obtain ⟨a0, c0, hc0, t0⟩ := hkk 0 (by omega)
      obtain ⟨a1, c1, hc1, t1⟩ := hkk 1 (by omega)
      rw [Nat.add_zero] at hc0
      have E0 : Hid (Ex w ((w.alloc (.cells #[.slice (some ⟨b, o, none⟩) 2 cap] 41)).alloc (.cells #[.int .i64 0, .slice none 0 0] 25))) := (Ex.new _ _).alloc _
      have C0 : Hid (FC rb (w.heap.size + 1) 2 25 ((w.alloc (.cells #[.slice (some ⟨b, o, none⟩) 2 cap] 41)).alloc (.cells #[.int .i64 0, .slice none 0 0] 25)) ((w.alloc (.cells #[.slice (some ⟨b, o, none⟩) 2 cap] 41)).alloc (.cells #[.int .i64 0, .slice none 0 0] 25))) := FC.start (heap_alloc_at _ _ (by simp)) rfl
      have KS : Hid (∀ w', FC rb (w.heap.size + 1) 2 25 ((w.alloc (.cells #[.slice (some ⟨b, o, none⟩) 2 cap] 41)).alloc (.cells #[.int .i64 0, .slice none 0 0] 25)) w' → (FC rb (w.heap.size + 1) 2 25 ((w.alloc (.cells #[.slice (some ⟨b, o, none⟩) 2 cap] 41)).alloc (.cells #[.int .i64 0, .slice none 0 0] 25)) w' ∧ w'.cell? ⟨w.heap.size, 0, none⟩ = some (.slice (some ⟨b, o, none⟩) 2 cap) ∧ w'.cell? ⟨b, o, none⟩ = some (.slice a0 (len (kid f 0)) c0) ∧ w'.cell? ⟨b, o + 1, none⟩ = some (.slice a1 (len (kid f 1)) c1))) := fun w' h => ⟨h, h.at (by show w.heap.size ≠ _; omega) (by show w.heap.size ≠ _; omega) (by simp), h.at (by show b ≠ _; omega) (by show b ≠ _; omega) (E0.out.at hc0), h.at (by show b ≠ _; omega) (by show b ≠ _; omega) (E0.out.at hc1)⟩
      have I0 : Hid (∀ w' q, FC rb (w.heap.size + 1) 2 25 ((w.alloc (.cells #[.slice (some ⟨b, o, none⟩) 2 cap] 41)).alloc (.cells #[.int .i64 0, .slice none 0 0] 25)) w' → Rd w' rb q → q + tk r ≤ 100000 → Calls Tryd.prog 23 #[.pointer (some ⟨rb, 0, none⟩), .agg #[.slice a0 (len (kid f 0)) c0]] w' fun e w'' => ∃ (n : Int) (g : F) (a' : Option Addr) (q' : Nat), e = .returned (.agg #[.int .i64 n, .slice a' (len g) (len g)]) ∧ VA w'' w'.heap.size g a' ∧ (len g = 0 → a' = none) ∧ (len g ≤ 2 ∧ Sm g) ∧ dep g < r ∧ q ≤ q' ∧ q' ≤ q + tk r ∧ Rd w'' rb q' ∧ Fr rb w' w'') := fun w' q h hR hq => l71Val_any r (kid f 0) a0 c0 lo rb q w' (by omega) hf.1 hlo hq (h.ta t0 E0.out hlo (by omega)) hR
      have I1 : Hid (∀ w' q, FC rb (w.heap.size + 1) 2 25 ((w.alloc (.cells #[.slice (some ⟨b, o, none⟩) 2 cap] 41)).alloc (.cells #[.int .i64 0, .slice none 0 0] 25)) w' → Rd w' rb q → q + tk r ≤ 100000 → Calls Tryd.prog 23 #[.pointer (some ⟨rb, 0, none⟩), .agg #[.slice a1 (len (kid f 1)) c1]] w' fun e w'' => ∃ (n : Int) (g : F) (a' : Option Addr) (q' : Nat), e = .returned (.agg #[.int .i64 n, .slice a' (len g) (len g)]) ∧ VA w'' w'.heap.size g a' ∧ (len g = 0 → a' = none) ∧ (len g ≤ 2 ∧ Sm g) ∧ dep g < r ∧ q ≤ q' ∧ q' ≤ q + tk r ∧ Rd w'' rb q' ∧ Fr rb w' w'') := fun w' q h hR hq => l71Val_any r (kid f 1) a1 c1 lo rb q w' (by omega) hf.2 hlo hq (h.ta t1 E0.out hlo (by omega)) hR
      have R0 : Hid (Rd ((w.alloc (.cells #[.slice (some ⟨b, o, none⟩) 2 cap] 41)).alloc (.cells #[.int .i64 0, .slice none 0 0] 25)).drew rb p) := hR.ex E0.out.drew
      rw [h2]
      clear hT hkk t0 t1 hf h2 h0 hR hc0 hc1
      go_enter Tryd.func23, Tryd.ntmps23
      go_wp2_with fail
      go_region_held3 (fun w' => FC rb (w.heap.size + 1) 2 25 ((w.alloc (.cells #[.slice (some ⟨b, o, none⟩) 2 cap] 41)).alloc (.cells #[.int .i64 0, .slice none 0 0] 25)) w' ∧ w'.cell? ⟨w.heap.size, 0, none⟩ = some (.slice (some ⟨b, o, none⟩) 2 cap) ∧ w'.cell? ⟨b, o, none⟩ = some (.slice a0 (len (kid f 0)) c0) ∧ w'.cell? ⟨b, o + 1, none⟩ = some (.slice a1 (len (kid f 1)) c1)) ((refine KS.out _ ?_; first | exact C0.out.drew | exact FC.fr (And.left ‹FC _ _ _ _ _ _ ∧ _›) ‹Fr _ _ _› (by omega) | exact FC.alloc (And.left ‹FC _ _ _ _ _ _ ∧ _›) (by omega) _ | exact FC.set (FC.set (And.left ‹FC _ _ _ _ _ _ ∧ _›) _ _) _ _ | exact FC.alloc (FC.set (FC.set (by assumption) _ _) _ _) (by omega) _)) (first | (go_at_call_of 23 (Value.slice a0 (len (kid f 0)) c0); refine (I0.out _ p (And.left ‹FC _ _ _ _ _ _ ∧ _›) R0.out (by omega)).mono ?_; rintro e w1 ⟨n0, g0, a0', q0, rfl, ht0, hnn0, hsm0, hdp0, hq0, hq0', hR1, hF1⟩) | (go_at_call_of 23 (Value.slice a1 (len (kid f 1)) c1); refine (I1.out _ q0 (And.left ‹FC _ _ _ _ _ _ ∧ _›) hR1 (by omega)).mono ?_; rintro e w2 ⟨n1, g1, a1', q1, rfl, ht1, hnn1, hsm1, hdp1, hq1, hq1', hR2, hF2⟩; have hcr := FC.fr (And.left ‹FC _ _ _ _ _ _ ∧ _›) hF2 (by omega); obtain ⟨vr, hvr⟩ := hcr.cell 0 (by omega); obtain ⟨vs, hvs⟩ := hcr.cell 1 (by omega); have hfr := hcr.frozen 0; have hfs := hcr.frozen 1; have hlr := World.block_lt_of_cell? _ _ hvr))
      go_wp2_with fail
      have hz : w.heap.size + 2 ≤ w1.heap.size := by have := hF1.size; simpa using this
      have hsz : ((w2.setCell ⟨w.heap.size + 1, 0, none⟩ (.int .i64 0)).setCell ⟨w.heap.size + 1, 1, none⟩ (.slice (some ⟨w2.heap.size, 0, none⟩) 2 2)).heap.size = w2.heap.size := by rw [World.size_setCell, World.size_setCell]
      have k1 : Kp (w.heap.size + 2) w1 (((w2.setCell ⟨w.heap.size + 1, 0, none⟩ (.int .i64 0)).setCell ⟨w.heap.size + 1, 1, none⟩ (.slice (some ⟨w2.heap.size, 0, none⟩) 2 2)).alloc (.cells #[.int .i64 n0, .slice a0' (len g0) (len g0), .int .i64 n1, .slice a1' (len g1) (len g1)] 25)) := (((hF2.kp (by omega)).set (Or.inl (by simp)) _).set (Or.inl (by simp)) _).alloc _
      have k2 : Kp (w.heap.size + 2) w2 (((w2.setCell ⟨w.heap.size + 1, 0, none⟩ (.int .i64 0)).setCell ⟨w.heap.size + 1, 1, none⟩ (.slice (some ⟨w2.heap.size, 0, none⟩) 2 2)).alloc (.cells #[.int .i64 n0, .slice a0' (len g0) (len g0), .int .i64 n1, .slice a1' (len g1) (len g1)] 25)) := (((Kp.refl _ _).set (Or.inl (by simp)) _).set (Or.inl (by simp)) _).alloc _
      have f0 : VA (((w2.setCell ⟨w.heap.size + 1, 0, none⟩ (.int .i64 0)).setCell ⟨w.heap.size + 1, 1, none⟩ (.slice (some ⟨w2.heap.size, 0, none⟩) 2 2)).alloc (.cells #[.int .i64 n0, .slice a0' (len g0) (len g0), .int .i64 n1, .slice a1' (len g1) (len g1)] 25)) w.heap.size g0 a0' := VA_lo (VA_kp (VA_lo ht0 (by simp)) k1) (by omega)
      have f1 : VA (((w2.setCell ⟨w.heap.size + 1, 0, none⟩ (.int .i64 0)).setCell ⟨w.heap.size + 1, 1, none⟩ (.slice (some ⟨w2.heap.size, 0, none⟩) 2 2)).alloc (.cells #[.int .i64 n0, .slice a0' (len g0) (len g0), .int .i64 n1, .slice a1' (len g1) (len g1)] 25)) w.heap.size g1 a1' := VA_lo (VA_kp (VA_lo ht1 hz) k2) (by omega)
      have e0 := World.cell?_alloc_new ((w2.setCell ⟨w.heap.size + 1, 0, none⟩ (.int .i64 0)).setCell ⟨w.heap.size + 1, 1, none⟩ (.slice (some ⟨w2.heap.size, 0, none⟩) 2 2)) #[.int .i64 n0, .slice a0' (len g0) (len g0), .int .i64 n1, .slice a1' (len g1) (len g1)] 25 0
      have e1 := World.cell?_alloc_new ((w2.setCell ⟨w.heap.size + 1, 0, none⟩ (.int .i64 0)).setCell ⟨w.heap.size + 1, 1, none⟩ (.slice (some ⟨w2.heap.size, 0, none⟩) 2 2)) #[.int .i64 n0, .slice a0' (len g0) (len g0), .int .i64 n1, .slice a1' (len g1) (len g1)] 25 1
      have e2 := World.cell?_alloc_new ((w2.setCell ⟨w.heap.size + 1, 0, none⟩ (.int .i64 0)).setCell ⟨w.heap.size + 1, 1, none⟩ (.slice (some ⟨w2.heap.size, 0, none⟩) 2 2)) #[.int .i64 n0, .slice a0' (len g0) (len g0), .int .i64 n1, .slice a1' (len g1) (len g1)] 25 2
      have e3 := World.cell?_alloc_new ((w2.setCell ⟨w.heap.size + 1, 0, none⟩ (.int .i64 0)).setCell ⟨w.heap.size + 1, 1, none⟩ (.slice (some ⟨w2.heap.size, 0, none⟩) 2 2)) #[.int .i64 n0, .slice a0' (len g0) (len g0), .int .i64 n1, .slice a1' (len g1) (len g1)] 25 3
      rw [hsz] at e0 e1 e2 e3
      have hlr' : w.heap.size + 1 < w2.heap.size := hlr
      have hr1 : (((w2.setCell ⟨w.heap.size + 1, 0, none⟩ (.int .i64 0)).setCell ⟨w.heap.size + 1, 1, none⟩ (.slice (some ⟨w2.heap.size, 0, none⟩) 2 2)).alloc (.cells #[.int .i64 n0, .slice a0' (len g0) (len g0), .int .i64 n1, .slice a1' (len g1) (len g1)] 25)).cell? ⟨w.heap.size + 1, 1, none⟩ = some (.slice (some ⟨w2.heap.size, 0, none⟩) 2 2) := by
        rw [World.cell?_alloc_lt _ _ _ (by rw [hsz]; exact hlr')]
        exact World.cell?_setCell_same _ _ _ (by rw [World.cell?_setCell_other _ _ _ _ (fun e => absurd (congrArg Addr.off e) (by simp))]; exact hvs)
      have hr0 : (((w2.setCell ⟨w.heap.size + 1, 0, none⟩ (.int .i64 0)).setCell ⟨w.heap.size + 1, 1, none⟩ (.slice (some ⟨w2.heap.size, 0, none⟩) 2 2)).alloc (.cells #[.int .i64 n0, .slice a0' (len g0) (len g0), .int .i64 n1, .slice a1' (len g1) (len g1)] 25)).cell? ⟨w.heap.size + 1, 0, none⟩ = some (.int .i64 0) := by
        rw [World.cell?_alloc_lt _ _ _ (by rw [hsz]; exact hlr'), World.cell?_setCell_other _ _ _ _ (fun e => absurd (congrArg Addr.off e) (by simp))]
        exact World.cell?_setCell_same _ _ _ hvr
      refine bodyPost_ret (v := .agg #[.int .i64 0, .slice (some ⟨w2.heap.size, 0, none⟩) 2 2]) (by simp [results, Tryd.results23, go_sem, hr0, hr1]) rfl ⟨0, two n0 g0 n1 g1, some ⟨w2.heap.size, 0, none⟩, q1, rfl, VA_two (k0 := len g0) (k1 := len g1) rfl ?_ e0 e1 e2 e3 f0 f1, (fun h => by cases h), ⟨by rw [len_two]; omega, (Sm_two n0 n1 (a := g0) (b := g1) ⟨by omega, hsm0.2⟩ ⟨by omega, hsm1.2⟩).2⟩, by simp only [two, dep]; omega, by omega, by simp only [tk]; omega, ?_, ?_⟩
      · omega
      · exact ((hR2.set (by show rb < w.heap.size + 1; omega) _).set (by show rb < w.heap.size + 1; omega) _).ex (Ex.new _ _)
      · exact ((((hcr.to_fr (Fr.of_ex E0.out _) (by omega))).set (Or.inr (by show w.heap.size ≤ w.heap.size + 1; omega)) _).set (Or.inr (by show w.heap.size ≤ w.heap.size + 1; omega)) _).alloc _

end Go.Proofs.YtngheeeadekdmaaDoor
