/- Walks: a value, a path and another part drawn. -/
import Derived.Test.YtomnekiiccbioaaD8
import Derived.Test.YtomnekiiccbioaaL4
namespace Go.Proofs.Ytomnekiiccbioaa
open Go.RowKit Go.Deep
attribute [local go_sem ↓] Go.wp_at_zero Go.wp_at_succ

/-- What four stores leave. -/
theorem four_ab {w : World} {p q r s : Addr} {u v x y u0 v0 x0 y0 : Value} (hp : w.cell? p = some u0) (hq : w.cell? q = some v0) (hr : w.cell? r = some x0) (hs : w.cell? s = some y0) (hpq : p ≠ q) (hpr : p ≠ r) (hps : p ≠ s) (hqr : q ≠ r) (hqs : q ≠ s) (hrs : r ≠ s) :
    ((((w.setCell p u).setCell q v).setCell r x).setCell s y).cell? p = some u ∧ ((((w.setCell p u).setCell q v).setCell r x).setCell s y).cell? q = some v ∧ ((((w.setCell p u).setCell q v).setCell r x).setCell s y).cell? r = some x ∧ ((((w.setCell p u).setCell q v).setCell r x).setCell s y).cell? s = some y := by
  obtain ⟨h1, h2, h3⟩ := three_ab (u := u) (v := v) (x := x) hp hq hr hpq hpr hqr
  have h4 : (((w.setCell p u).setCell q v).setCell r x).cell? s = some y0 := by
    rw [World.cell?_setCell_other _ _ _ _ hrs, World.cell?_setCell_other _ _ _ _ hqs, World.cell?_setCell_other _ _ _ _ hps]; exact hs
  exact ⟨by rw [World.cell?_setCell_other _ _ _ _ hps.symm]; exact h1, by rw [World.cell?_setCell_other _ _ _ _ hqs.symm]; exact h2, by rw [World.cell?_setCell_other _ _ _ _ hrs.symm]; exact h3, World.cell?_setCell_same _ _ _ h4⟩

def DPutPost (w : World) (e : Ending) (w' : World) : Prop := ∃ (m : Int) (g : F) (a' : Option Addr) (c' : Nat) (xs : List Int) (pa : Option Addr) (pc : Nat) (k : Int) (h : F) (b' : Option Addr) (d' : Nat), e = .returned (.tuple #[.agg #[.int .i64 m, .slice a' (len g) c'], .slice pa xs.length pc, .agg #[.int .i64 k, .slice b' (len h) d']]) ∧ (VA w' w.heap.size g a' ∧ len g ≤ 1000000000 ∧ Sm g) ∧ (PA w' w.heap.size xs pa ∧ xs.length ≤ 1001 ∧ xs.length ≤ pc ∧ pc ≤ 9223372036854775807 ∧ ((pa = none ∧ pc = 0) ∨ ∃ g, pa = some ⟨g, 0, none⟩)) ∧ (VA w' w.heap.size h b' ∧ len h ≤ 1000000000 ∧ Sm h) ∧ Ex w w'

set_option maxRecDepth 100000 in
set_option maxHeartbeats 4000000 in
theorem DrawValPut_any (n cc : Nat) (ca : Option Addr) (w : World) (hn : n ≤ cc) (hc : cc ≤ 9223372036854775807) (hB : By w n ca) :
    Calls Try.prog 38 #[.slice ca n cc] w (DPutPost w) := by
  have B : Hid (By w n ca) := hB
  clear hB
  go_enter Try.func38, Try.ntmps38
  go_wp2_with fail
  refine (l6Open_any n cc ca _ hn hc (B.out.ex ((Ex.new _ _).alloc _))).mono ?_
  rintro e w0 ⟨rfl, hR0, hx0⟩
  rw [World.size_alloc, World.size_alloc] at hR0
  have X0 : Hid (Ex w w0) := ((Ex.new _ _).alloc _).trans hx0
  have hra0 : w0.heap[w.heap.size]? = some (.cells #[.int .i64 0, .slice none 0 0] 39 (0, 0)) := hx0.blk ((Ex.new _ _).blk (heap_alloc_new _ _))
  have hrb0 : w0.heap[w.heap.size + 1]? = some (.cells #[.int .i64 0, .slice none 0 0] 39 (0, 0)) := hx0.blk (heap_alloc_at _ _ (by simp))
  clear hx0
  go_wp2_with fail
  refine (pick_any _ 0 3 _ (by omega) (by omega) (by omega) hR0).mono ?_
  rintro e w1 ⟨x, rfl, hx1, hx3, hR1, hF1⟩
  have z0 := hR0.blk
  have z1 := hF1.size
  have htk := tk_le x hx1 hx3
  go_wp2_with fail
  refine (l71Type_any (x.toNat + 1) (2 + x) (w.heap.size + 2) (0 + 1) _ (by omega) (by omega) (by omega) hR1).mono ?_
  rintro e w2 ⟨f, a, q0, rfl, ht, hnil, hf, hq0, hq1, hR2, hF2⟩
  have F2 : Hid (Fr (w.heap.size + 2) w0 w2) := hF1.trans hF2
  have z2 := hF2.size
  have T2 : Hid (TA w2 (w.heap.size + 3) f a) := TA_lo ht (by omega)
  have FF : Hid (fits (x.toNat + 1 + 1) f = true) := hf
  have hd4 := fits_dep _ _ hf
  have SM : Hid (len f ≤ 2 ∧ Sm f) := fits_sm _ _ FF.out
  have R2 : Hid (Rd (w2.alloc (.cells #[.slice a (len f) (len f)] 25)) (w.heap.size + 2) q0) := hR2.ex (Ex.new _ _)
  clear ht hnil hf hR0 hR1 hF1 hF2 hR2
  go_wp2_with fail
  refine (l71Any_any f a (len f) (w.heap.size + 3) (w.heap.size + 2) q0 _ (by omega) (by omega) (by have := SM.out; omega) SM.out.2 (by omega) (TA_below T2.out (Ex.new _ _)) R2.out).mono ?_
  rintro e w3 ⟨pv, xs, q3, rfl, ho3, hxl, hq3, hq3', hR3, hF3⟩
  have z3 : w2.heap.size < w3.heap.size := by have := hF3.size; rw [World.size_alloc] at this; omega
  have F3 : Hid (Fr (w.heap.size + 2) w0 w3) := F2.out.trans (Fr.trans (Fr.of_ex (Ex.new _ _) _) hF3)
  have T3 : Hid (TA w3 (w.heap.size + 3) f a) := TA_kp (TA_below T2.out (Ex.new _ _)) (hF3.kp (by omega))
  have hb3 : w3.cell? ⟨w2.heap.size, 0, none⟩ = some (.slice a (len f) (len f)) := hF3.at (by show w2.heap.size ≠ _; omega) (World.cell?_alloc_new _ _ _ _)
  have O3 : Hid (Own w3 (w.heap.size + 3) pv xs) := ho3.lo (by rw [World.size_alloc]; omega)
  obtain ⟨pa, pc, hv, hpa, hpx⟩ := O3.out.PA
  subst hv
  have P3 : Hid (PA w3 0 xs pa) := PA_lo hpa (Nat.zero_le _)
  have R3 : Hid (Rd w3 (w.heap.size + 2) q3) := hR3
  have PX : Hid _ := hpx
  clear ho3 hpa hpx hR3 hF3
  go_wp2_with fail
  refine (sTypeAt_any f xs a (len f) pa pc (w.heap.size + 3) _ (by omega) T3.out P3.out).mono ?_
  rintro e w4 ⟨a4, c4, rfl, ht4, hb4⟩
  have hq : q3 ≤ 100 := by omega
  have FX : Hid ((typeAtR f xs).2 = true → fits 4 (typeAtR f xs).1 = true) := fun h => by
    have hf4 : fits 4 f = true := by
      have : x.toNat = 0 ∨ x.toNat = 1 ∨ x.toNat = 2 := by omega
      have hF := FF.out
      rcases this with e | e | e <;> rw [e] at hF
      · exact fits_mono2 _ _ (fits_mono2 _ _ hF)
      · exact fits_mono2 _ _ hF
      · exact hF
    cases hp : partF f xs with
    | none => simp [typeAtR, hf4, hp] at h
    | some g =>
      have := fits_part4 _ 4 f g hf4 hp
      simp [typeAtR, hf4, hp, this]
  generalize htr : typeAtR f xs = tr at *
  obtain ⟨f8, ok⟩ := tr
  clear htr
  obtain ⟨t8, ht8⟩ : ∃ t8, t8 = w4.heap.size := ⟨_, rfl⟩
  obtain ⟨t6, ht6⟩ : ∃ t6, t6 = w2.heap.size := ⟨_, rfl⟩
  obtain ⟨W4, hW4⟩ : ∃ W4, W4 = w4.alloc (.cells #[.slice a4 (len f8) c4] 25) := ⟨_, rfl⟩
  have XW4 : Hid (Ex w3 W4) := hW4 ▸ hb4.trans (Ex.new _ _)
  have T8 : Hid (TA W4 (w.heap.size + 3) f8 a4) := hW4 ▸ TA_below (TA_lo ht4 (by omega)) (Ex.new _ _)
  have B8 : Hid (W4.heap[t8]? = some (.cells #[.slice a4 (len f8) c4] 25 (0, 0))) := hW4 ▸ heap_alloc_at _ _ ht8
  have z4 := hb4.size
  have zt8 : t6 < t8 := by omega
  have zt6 : w.heap.size + 2 < t6 := by omega
  have zW4 : t8 < W4.heap.size := lt_of_block B8.out
  have C6 : Hid (∀ w', Fr (w.heap.size + 2) w3 w' → w'.cell? ⟨t6, 0, none⟩ = some (.slice a (len f) (len f))) := fun w' h => h.at (by show t6 ≠ _; omega) (ht6 ▸ hb3)
  -- behind: whatever the second type is, all is drawn
  have REST : Hid (∀ (W : World), Fr (w.heap.size + 2) w3 W → ∀ w', FD (w.heap.size + 2) w.heap.size 2 39 (w.heap.size + 1) 2 39 W w' → TA w' (w.heap.size + 3) f a ∧ PA w' (w.heap.size + 3) xs pa) := fun W hF w' h => by
    have k1 : Kp (w.heap.size + 3) w3 w' := (hF.kp (by omega)).trans (h.kp (by omega) (by omega) (by omega))
    exact ⟨TA_kp T3.out k1, by
      obtain ⟨pa', pc', e', hpa', _⟩ := (O3.out.keep k1).PA
      cases e'
      exact hpa'⟩
  have RES : Hid (∀ (W : World), Fr (w.heap.size + 2) w3 W → W.heap[w.heap.size]? = some (.cells #[.int .i64 0, .slice none 0 0] 39 (0, 0)) ∧ W.heap[w.heap.size + 1]? = some (.cells #[.int .i64 0, .slice none 0 0] 39 (0, 0)) ∧ Ex w W) := fun W hF =>
    ⟨hF.blk (by omega) (F3.out.blk (by omega) hra0), hF.blk (by omega) (F3.out.blk (by omega) hrb0), hF.to_ex (F3.out.to_ex X0.out (by omega)) (by omega)⟩
  have R4 : Hid (Rd W4 (w.heap.size + 2) q3) := R3.out.ex XW4.out
  have FIN : Hid (∀ (W w5 w6 W7 : World) (m k : Int) (g h : F) (a' b' : Option Addr) (c' d' : Nat), Fr (w.heap.size + 2) w3 W → FD (w.heap.size + 2) w.heap.size 2 39 (w.heap.size + 1) 2 39 W w6 → Fr (w.heap.size + 2) w5 w6 → VA w5 (w.heap.size + 3) g a' → VA w6 (w.heap.size + 3) h b' → (len g ≤ 1000000000 ∧ Sm g) → (len h ≤ 1000000000 ∧ Sm h) → W7 = (((w6.setCell ⟨w.heap.size, 0, none⟩ (.int .i64 m)).setCell ⟨w.heap.size, 1, none⟩ (.slice a' (len g) c')).setCell ⟨w.heap.size + 1, 0, none⟩ (.int .i64 k)).setCell ⟨w.heap.size + 1, 1, none⟩ (.slice b' (len h) d') →
      (W7.cell? ⟨w.heap.size, 0, none⟩ = some (.int .i64 m) ∧ W7.cell? ⟨w.heap.size, 1, none⟩ = some (.slice a' (len g) c') ∧ W7.cell? ⟨w.heap.size + 1, 0, none⟩ = some (.int .i64 k) ∧ W7.cell? ⟨w.heap.size + 1, 1, none⟩ = some (.slice b' (len h) d')) ∧
      DPutPost w (.returned (.tuple #[.agg #[.int .i64 m, .slice a' (len g) c'], .slice pa xs.length pc, .agg #[.int .i64 k, .slice b' (len h) d']])) W7) := fun W w5 w6 W7 m k g h a' b' c' d' h1 h2 h3 h4 h5 h6 h7 hW => by
    subst hW
    obtain ⟨u0, hu0⟩ := h2.cell 0 (by omega)
    obtain ⟨u1, hu1⟩ := h2.cell 1 (by omega)
    obtain ⟨u2, hu2⟩ := h2.cell2 0 (by omega)
    obtain ⟨u3, hu3⟩ := h2.cell2 1 (by omega)
    have hF := (((h2.set 0 (.int .i64 m) (by omega)).set 1 (.slice a' (len g) c') (by omega)).set2 0 (.int .i64 k) (by omega)).set2 1 (.slice b' (len h) d') (by omega)
    have kk : Kp (w.heap.size + 3) w6 ((((w6.setCell ⟨w.heap.size, 0, none⟩ (.int .i64 m)).setCell ⟨w.heap.size, 1, none⟩ (.slice a' (len g) c')).setCell ⟨w.heap.size + 1, 0, none⟩ (.int .i64 k)).setCell ⟨w.heap.size + 1, 1, none⟩ (.slice b' (len h) d')) := ((((Kp.refl _ _).set (Or.inl (by show w.heap.size < _; omega)) _).set (Or.inl (by show w.heap.size < _; omega)) _).set (Or.inl (by show w.heap.size + 1 < _; omega)) _).set (Or.inl (by show w.heap.size + 1 < _; omega)) _
    have hP := (REST.out W h1 _ hF).2
    refine ⟨four_ab hu0 hu1 hu2 hu3 (fun e => absurd (congrArg Addr.off e) (by simp)) (fun e => absurd (congrArg Addr.block e) (by simp)) (fun e => absurd (congrArg Addr.block e) (by simp)) (fun e => absurd (congrArg Addr.block e) (by simp)) (fun e => absurd (congrArg Addr.block e) (by simp)) (fun e => absurd (congrArg Addr.off e) (by simp)), m, g, a', c', xs, pa, pc, k, h, b', d', rfl, ⟨VA_lo (VA_kp (VA_kp h4 (h3.kp (by omega))) kk) (by omega), h6⟩, ⟨PA_lo hP (by omega), hxl, PX.out⟩, ⟨VA_lo (VA_kp h5 kk) (by omega), h7⟩, hF.to_ex (RES.out W h1).2.2 (by omega) (by omega) (by omega)⟩
  have IB : Hid (∀ (w' : World) (f' : F) (a' : Option Addr) (c' q r : Nat), r ≤ 4 → fits r f' = true → q ≤ 50000 → TA w' (w.heap.size + 3) f' a' → Rd w' (w.heap.size + 2) q → Calls Try.prog 68 #[.pointer (some ⟨w.heap.size + 2, 0, none⟩), .agg #[.slice a' (len f') c']] w' fun e w'' => ∃ (n : Int) (g : F) (a' : Option Addr) (c' q' : Nat), e = .returned (.agg #[.int .i64 n, .slice a' (len g) c']) ∧ VA w'' (w.heap.size + 3) g a' ∧ (len g ≤ 1000000000 ∧ Sm g) ∧ q' ≤ q + 100 ∧ Rd w'' (w.heap.size + 2) q' ∧ Fr (w.heap.size + 2) w' w'') := fun w' f' a' c' q r h1 h2 h3 h4 h5 => (l71Bad_any r f' a' c' (w.heap.size + 3) (w.heap.size + 2) q w' h1 h2 (by omega) h3 h4 h5).mono fun e w'' ⟨n, g, a'', c'', q', e1, e2, e3, _, _, e6, e7, e4⟩ => ⟨n, g, a'', c'', q', e1, VA_lo e2 (by have := h5.blk; omega), e3, e6, e7, e4⟩
  clear hb3 ht4 hb4 hra0 hrb0
  have hg2 : Hid (w2.heap.size = t6) := ht6.symm
  have hg4 : Hid (w4.heap.size = t8) := ht8.symm
  have HW4 : Hid (W4 = w4.alloc (.cells #[.slice a4 (len f8) c4] 25)) := hW4
  have zz : w2.heap.size < w4.heap.size := by omega
  have zz3 : w3.heap.size ≤ t8 := by omega
  clear ht6 ht8 hW4
  cases ok
  · go_wp2_with fail
    rw [← HW4.out, hg2.out, hg4.out]
    clear HW4
    refine (l71Type_any 1 2 (w.heap.size + 2) q3 _ (by omega) (by omega) (by simp only [tk]; omega) R4.out).mono ?_
    rintro e w5 ⟨fx, ax, qx, rfl, ht5, hn5, hf5, hq5, hq5', hR5, hF5⟩
    simp only [tk] at hq5'
    have b5 := hF5.blk (by omega) B8.out
    have c8 := cell_of_one b5
    have c9 := free_of_one b5
    have z5 := hF5.size
    obtain ⟨W, hW⟩ : ∃ W, W = w5.setCell ⟨t8, 0, none⟩ (.slice ax (len fx) (len fx)) := ⟨_, rfl⟩
    have HF : Fr (w.heap.size + 2) w3 W := hW ▸ ((Fr.of_ex XW4.out _).trans hF5).set (Or.inr (by show w3.heap.size ≤ t8; omega)) _
    have HB : W.heap[t8]? = some (.cells #[.slice ax (len fx) (len fx)] 25 (0, 0)) := hW ▸ one_setCell b5
    have HTX : TA W (w.heap.size + 3) fx ax := hW ▸ TA_lo (TA_set ht5 (by show t8 < _; omega) _) (by omega)
    have HRW : Rd W (w.heap.size + 2) qx := hW ▸ hR5.set (by show w.heap.size + 2 < t8; omega) _
    have HFX : fits 4 fx = true := fits_mono2 _ _ (fits_mono2 _ _ hf5)
    clear ht5 hn5 hf5 hR5 hF5 b5
    go_wp2_with fail
    rw [← hW]
    clear hW c8 c9
    obtain ⟨hra, hrb, XW⟩ := RES.out W HF
    have C0 : Hid (FD (w.heap.size + 2) w.heap.size 2 39 (w.heap.size + 1) 2 39 W W) := FD.start hra rfl hrb rfl
    have c6 := C6.out W HF
    have KS : Hid (∀ w', FD (w.heap.size + 2) w.heap.size 2 39 (w.heap.size + 1) 2 39 W w' → (FD (w.heap.size + 2) w.heap.size 2 39 (w.heap.size + 1) 2 39 W w' ∧ w'.cell? ⟨t6, 0, none⟩ = some (.slice a (len f) (len f)) ∧ w'.cell? ⟨t8, 0, none⟩ = some (.slice ax (len fx) (len fx)))) := fun w' h => ⟨h, h.at (by show t6 ≠ _; omega) (by show t6 ≠ _; omega) (by show t6 ≠ _; omega) c6, h.at (by show t8 ≠ _; omega) (by show t8 ≠ _; omega) (by show t8 ≠ _; omega) (cell_of_one HB)⟩
    have TX : Hid (∀ w', FD (w.heap.size + 2) w.heap.size 2 39 (w.heap.size + 1) 2 39 W w' → TA w' (w.heap.size + 3) fx ax) := fun w' h => TA_kp HTX (h.kp (by omega) (by omega) (by omega))
    have TF : Hid (∀ w', FD (w.heap.size + 2) w.heap.size 2 39 (w.heap.size + 1) 2 39 W w' → TA w' (w.heap.size + 3) f a) := fun w' h => (REST.out W HF w' h).1
    have RW : Hid (Rd W (w.heap.size + 2) qx) := HRW
    have FXX : Hid (fits 4 fx = true) := HFX
    clear HTX HRW HFX hra hrb HB
    go_region_held3 (fun w' => FD (w.heap.size + 2) w.heap.size 2 39 (w.heap.size + 1) 2 39 W w' ∧ w'.cell? ⟨t6, 0, none⟩ = some (.slice a (len f) (len f)) ∧ w'.cell? ⟨t8, 0, none⟩ = some (.slice ax (len fx) (len fx))) ((refine KS.out _ ?_; first | exact C0.out.drew | exact FD.fr (And.left ‹FD _ _ _ _ _ _ _ _ _ ∧ _›) ‹Fr _ _ _› (by omega) (by omega) | exact FD.set (FD.set (And.left ‹FD _ _ _ _ _ _ _ _ _ ∧ _›) _ _ (by omega)) _ _ (by omega) | exact FD.set2 (FD.set2 (And.left ‹FD _ _ _ _ _ _ _ _ _ ∧ _›) _ _ (by omega)) _ _ (by omega) | exact (And.left ‹FD _ _ _ _ _ _ _ _ _ ∧ _›))) (first | (go_at_call_of 68 (Value.slice a (len f) (len f)); refine (IB.out _ f a _ qx (x.toNat + 1 + 1) (by omega) FF.out (by omega) (TF.out _ (And.left ‹FD _ _ _ _ _ _ _ _ _ ∧ _›)) (RW.out.ex (Ex.refl _).drew)).mono ?_; rintro e wA ⟨m, g, a', c', qA, rfl, hvA, hsmA, hqA, hRA, hFA⟩) | (go_at_call_of 68 (Value.slice ax (len fx) (len fx)); refine (IB.out _ fx ax _ qA 4 (by omega) FXX.out (by omega) (TX.out _ (And.left ‹FD _ _ _ _ _ _ _ _ _ ∧ _›)) hRA).mono ?_; rintro e wB ⟨k, h, b', d', qB, rfl, hvB, hsmB, hqB, hRB, hFB⟩; have hcr := FD.fr (And.left ‹FD _ _ _ _ _ _ _ _ _ ∧ _›) hFB (by omega) (by omega); obtain ⟨u0, hu0⟩ := hcr.cell 0 (by omega); obtain ⟨u1, hu1⟩ := hcr.cell 1 (by omega); obtain ⟨u2, hu2⟩ := hcr.cell2 0 (by omega); obtain ⟨u3, hu3⟩ := hcr.cell2 1 (by omega); have v0 := hcr.frozen 0; have v1 := hcr.frozen 1; have v2 := hcr.frozen2 0; have v3 := hcr.frozen2 1))
    go_wp2_with fail
    obtain ⟨⟨hr0, hr1, hr2, hr3⟩, hfin⟩ := FIN.out W wA wB _ m k g h a' b' c' d' HF hcr hFB hvA hvB hsmA hsmB rfl
    exact bodyPost_ret (v := .tuple #[.agg #[.int .i64 m, .slice a' (len g) c'], .slice pa xs.length pc, .agg #[.int .i64 k, .slice b' (len h) d']]) (by simp [results, Try.results38, go_sem, hr0, hr1, hr2, hr3]) rfl hfin
  · go_wp2_with fail
    rw [← HW4.out, hg2.out, hg4.out]
    clear HW4
    refine (pick_any (w.heap.size + 2) q3 8 _ (by omega) (by omega) (by omega) R4.out).mono ?_
    rintro e w6 ⟨y, rfl, hy0, hy8, hR6, hF6⟩
    have z6 := hF6.size
    have b6 := hF6.blk (by omega) B8.out
    have T6 : TA w6 (w.heap.size + 3) f8 a4 := TA_kp T8.out (hF6.kp (by omega))
    have F6 : Fr (w.heap.size + 2) w3 w6 := (Fr.of_ex XW4.out _).trans hF6
    by_cases hy : y = 0
    · have e0 : (y == 0) = true := by simp [hy]
      clear hy
      go_wp2_with fail
      refine (l71Type_any 1 2 (w.heap.size + 2) (q3 + 1) _ (by omega) (by omega) (by simp only [tk]; omega) hR6).mono ?_
      rintro e w5 ⟨fx, ax, qx, rfl, ht5, hn5, hf5, hq5, hq5', hR5, hF5⟩
      simp only [tk] at hq5'
      have b5 := hF5.blk (by omega) b6
      have c8 := cell_of_one b5
      have c9 := free_of_one b5
      have z5 := hF5.size
      obtain ⟨W, hW⟩ : ∃ W, W = w5.setCell ⟨t8, 0, none⟩ (.slice ax (len fx) (len fx)) := ⟨_, rfl⟩
      have HF : Fr (w.heap.size + 2) w3 W := hW ▸ ((F6).trans hF5).set (Or.inr (by show w3.heap.size ≤ t8; omega)) _
      have HB : W.heap[t8]? = some (.cells #[.slice ax (len fx) (len fx)] 25 (0, 0)) := hW ▸ one_setCell b5
      have HTX : TA W (w.heap.size + 3) fx ax := hW ▸ TA_lo (TA_set ht5 (by show t8 < _; omega) _) (by omega)
      have HRW : Rd W (w.heap.size + 2) qx := hW ▸ hR5.set (by show w.heap.size + 2 < t8; omega) _
      have HFX : fits 4 fx = true := fits_mono2 _ _ (fits_mono2 _ _ hf5)
      clear ht5 hn5 hf5 hR5 hF5 b5
      go_wp2_with fail
      rw [← hW]
      clear hW c8 c9
      obtain ⟨hra, hrb, XW⟩ := RES.out W HF
      have C0 : Hid (FD (w.heap.size + 2) w.heap.size 2 39 (w.heap.size + 1) 2 39 W W) := FD.start hra rfl hrb rfl
      have c6 := C6.out W HF
      have KS : Hid (∀ w', FD (w.heap.size + 2) w.heap.size 2 39 (w.heap.size + 1) 2 39 W w' → (FD (w.heap.size + 2) w.heap.size 2 39 (w.heap.size + 1) 2 39 W w' ∧ w'.cell? ⟨t6, 0, none⟩ = some (.slice a (len f) (len f)) ∧ w'.cell? ⟨t8, 0, none⟩ = some (.slice ax (len fx) (len fx)))) := fun w' h => ⟨h, h.at (by show t6 ≠ _; omega) (by show t6 ≠ _; omega) (by show t6 ≠ _; omega) c6, h.at (by show t8 ≠ _; omega) (by show t8 ≠ _; omega) (by show t8 ≠ _; omega) (cell_of_one HB)⟩
      have TX : Hid (∀ w', FD (w.heap.size + 2) w.heap.size 2 39 (w.heap.size + 1) 2 39 W w' → TA w' (w.heap.size + 3) fx ax) := fun w' h => TA_kp HTX (h.kp (by omega) (by omega) (by omega))
      have TF : Hid (∀ w', FD (w.heap.size + 2) w.heap.size 2 39 (w.heap.size + 1) 2 39 W w' → TA w' (w.heap.size + 3) f a) := fun w' h => (REST.out W HF w' h).1
      have RW : Hid (Rd W (w.heap.size + 2) qx) := HRW
      have FXX : Hid (fits 4 fx = true) := HFX
      clear HTX HRW HFX hra hrb HB
      go_region_held3 (fun w' => FD (w.heap.size + 2) w.heap.size 2 39 (w.heap.size + 1) 2 39 W w' ∧ w'.cell? ⟨t6, 0, none⟩ = some (.slice a (len f) (len f)) ∧ w'.cell? ⟨t8, 0, none⟩ = some (.slice ax (len fx) (len fx))) ((refine KS.out _ ?_; first | exact C0.out.drew | exact FD.fr (And.left ‹FD _ _ _ _ _ _ _ _ _ ∧ _›) ‹Fr _ _ _› (by omega) (by omega) | exact FD.set (FD.set (And.left ‹FD _ _ _ _ _ _ _ _ _ ∧ _›) _ _ (by omega)) _ _ (by omega) | exact FD.set2 (FD.set2 (And.left ‹FD _ _ _ _ _ _ _ _ _ ∧ _›) _ _ (by omega)) _ _ (by omega) | exact (And.left ‹FD _ _ _ _ _ _ _ _ _ ∧ _›))) (first | (go_at_call_of 68 (Value.slice a (len f) (len f)); refine (IB.out _ f a _ qx (x.toNat + 1 + 1) (by omega) FF.out (by omega) (TF.out _ (And.left ‹FD _ _ _ _ _ _ _ _ _ ∧ _›)) (RW.out.ex (Ex.refl _).drew)).mono ?_; rintro e wA ⟨m, g, a', c', qA, rfl, hvA, hsmA, hqA, hRA, hFA⟩) | (go_at_call_of 68 (Value.slice ax (len fx) (len fx)); refine (IB.out _ fx ax _ qA 4 (by omega) FXX.out (by omega) (TX.out _ (And.left ‹FD _ _ _ _ _ _ _ _ _ ∧ _›)) hRA).mono ?_; rintro e wB ⟨k, h, b', d', qB, rfl, hvB, hsmB, hqB, hRB, hFB⟩; have hcr := FD.fr (And.left ‹FD _ _ _ _ _ _ _ _ _ ∧ _›) hFB (by omega) (by omega); obtain ⟨u0, hu0⟩ := hcr.cell 0 (by omega); obtain ⟨u1, hu1⟩ := hcr.cell 1 (by omega); obtain ⟨u2, hu2⟩ := hcr.cell2 0 (by omega); obtain ⟨u3, hu3⟩ := hcr.cell2 1 (by omega); have v0 := hcr.frozen 0; have v1 := hcr.frozen 1; have v2 := hcr.frozen2 0; have v3 := hcr.frozen2 1))
      go_wp2_with fail
      obtain ⟨⟨hr0, hr1, hr2, hr3⟩, hfin⟩ := FIN.out W wA wB _ m k g h a' b' c' d' HF hcr hFB hvA hvB hsmA hsmB rfl
      exact bodyPost_ret (v := .tuple #[.agg #[.int .i64 m, .slice a' (len g) c'], .slice pa xs.length pc, .agg #[.int .i64 k, .slice b' (len h) d']]) (by simp [results, Try.results38, go_sem, hr0, hr1, hr2, hr3]) rfl hfin
    · have e0 : (y == 0) = false := by simp [hy]
      obtain ⟨W, hW⟩ : ∃ W, W = w6 := ⟨_, rfl⟩
      obtain ⟨fx, hfx⟩ : ∃ fx, fx = f8 := ⟨_, rfl⟩
      obtain ⟨ax, hax⟩ : ∃ ax, ax = a4 := ⟨_, rfl⟩
      obtain ⟨cx, hcx⟩ : ∃ cx, cx = c4 := ⟨_, rfl⟩
      obtain ⟨qx, hqx⟩ : ∃ qx, qx = q3 + 1 := ⟨_, rfl⟩
      have hqx' : qx ≤ 1000 := by omega
      have HFX : fits 4 fx = true := hfx ▸ FX.out (by trivial)
      subst hW hfx hax hcx
      have HF := F6
      have HB := b6
      have HTX := T6
      have HRW : Rd W (w.heap.size + 2) qx := hqx ▸ hR6
      clear hqx hR6 hF6 T6 b6
      go_wp2_with fail
      obtain ⟨hra, hrb, XW⟩ := RES.out W HF
      have C0 : Hid (FD (w.heap.size + 2) w.heap.size 2 39 (w.heap.size + 1) 2 39 W W) := FD.start hra rfl hrb rfl
      have c6 := C6.out W HF
      have KS : Hid (∀ w', FD (w.heap.size + 2) w.heap.size 2 39 (w.heap.size + 1) 2 39 W w' → (FD (w.heap.size + 2) w.heap.size 2 39 (w.heap.size + 1) 2 39 W w' ∧ w'.cell? ⟨t6, 0, none⟩ = some (.slice a (len f) (len f)) ∧ w'.cell? ⟨t8, 0, none⟩ = some (.slice ax (len fx) cx))) := fun w' h => ⟨h, h.at (by show t6 ≠ _; omega) (by show t6 ≠ _; omega) (by show t6 ≠ _; omega) c6, h.at (by show t8 ≠ _; omega) (by show t8 ≠ _; omega) (by show t8 ≠ _; omega) (cell_of_one HB)⟩
      have TX : Hid (∀ w', FD (w.heap.size + 2) w.heap.size 2 39 (w.heap.size + 1) 2 39 W w' → TA w' (w.heap.size + 3) fx ax) := fun w' h => TA_kp HTX (h.kp (by omega) (by omega) (by omega))
      have TF : Hid (∀ w', FD (w.heap.size + 2) w.heap.size 2 39 (w.heap.size + 1) 2 39 W w' → TA w' (w.heap.size + 3) f a) := fun w' h => (REST.out W HF w' h).1
      have RW : Hid (Rd W (w.heap.size + 2) qx) := HRW
      have FXX : Hid (fits 4 fx = true) := HFX
      clear HTX HRW HFX hra hrb HB
      go_region_held3 (fun w' => FD (w.heap.size + 2) w.heap.size 2 39 (w.heap.size + 1) 2 39 W w' ∧ w'.cell? ⟨t6, 0, none⟩ = some (.slice a (len f) (len f)) ∧ w'.cell? ⟨t8, 0, none⟩ = some (.slice ax (len fx) cx)) ((refine KS.out _ ?_; first | exact C0.out.drew | exact FD.fr (And.left ‹FD _ _ _ _ _ _ _ _ _ ∧ _›) ‹Fr _ _ _› (by omega) (by omega) | exact FD.set (FD.set (And.left ‹FD _ _ _ _ _ _ _ _ _ ∧ _›) _ _ (by omega)) _ _ (by omega) | exact FD.set2 (FD.set2 (And.left ‹FD _ _ _ _ _ _ _ _ _ ∧ _›) _ _ (by omega)) _ _ (by omega) | exact (And.left ‹FD _ _ _ _ _ _ _ _ _ ∧ _›))) (first | (go_at_call_of 68 (Value.slice a (len f) (len f)); refine (IB.out _ f a _ qx (x.toNat + 1 + 1) (by omega) FF.out (by omega) (TF.out _ (And.left ‹FD _ _ _ _ _ _ _ _ _ ∧ _›)) (RW.out.ex (Ex.refl _).drew)).mono ?_; rintro e wA ⟨m, g, a', c', qA, rfl, hvA, hsmA, hqA, hRA, hFA⟩) | (go_at_call_of 68 (Value.slice ax (len fx) cx); refine (IB.out _ fx ax _ qA 4 (by omega) FXX.out (by omega) (TX.out _ (And.left ‹FD _ _ _ _ _ _ _ _ _ ∧ _›)) hRA).mono ?_; rintro e wB ⟨k, h, b', d', qB, rfl, hvB, hsmB, hqB, hRB, hFB⟩; have hcr := FD.fr (And.left ‹FD _ _ _ _ _ _ _ _ _ ∧ _›) hFB (by omega) (by omega); obtain ⟨u0, hu0⟩ := hcr.cell 0 (by omega); obtain ⟨u1, hu1⟩ := hcr.cell 1 (by omega); obtain ⟨u2, hu2⟩ := hcr.cell2 0 (by omega); obtain ⟨u3, hu3⟩ := hcr.cell2 1 (by omega); have v0 := hcr.frozen 0; have v1 := hcr.frozen 1; have v2 := hcr.frozen2 0; have v3 := hcr.frozen2 1))
      go_wp2_with fail
      obtain ⟨⟨hr0, hr1, hr2, hr3⟩, hfin⟩ := FIN.out W wA wB _ m k g h a' b' c' d' HF hcr hFB hvA hvB hsmA hsmB rfl
      exact bodyPost_ret (v := .tuple #[.agg #[.int .i64 m, .slice a' (len g) c'], .slice pa xs.length pc, .agg #[.int .i64 k, .slice b' (len h) d']]) (by simp [results, Try.results38, go_sem, hr0, hr1, hr2, hr3]) rfl hfin

end Go.Proofs.Ytomnekiiccbioaa
