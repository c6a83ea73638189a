/- Walks: a value and a path drawn. -/
import Derived.Test.YtomnekiiccbioaaD7
namespace Go.Proofs.Ytomnekiiccbioaa
open Go.RowKit Go.Deep
attribute [local go_sem ↓] Go.wp_at_zero Go.wp_at_succ

theorem tk_le (x : Int) (h0 : 0 ≤ x) (h : x < 3) : tk (x.toNat + 1) ≤ 7 := by
  have : x.toNat = 0 ∨ x.toNat = 1 ∨ x.toNat = 2 := by omega
  rcases this with h | h | h <;> rw [h] <;> decide

set_option maxRecDepth 100000 in
set_option maxHeartbeats 2000000 in
theorem DrawValAt_any (n cc : Nat) (ca : Option Addr) (w : World) (hn : n ≤ cc) (hc : cc ≤ 9223372036854775807) (hB : By w n ca) :
    Calls Try.prog 35 #[.slice ca n cc] w fun e w' => ∃ (m : Int) (g : F) (a' : Option Addr) (c' : Nat) (xs : List Int) (pa : Option Addr) (pc : Nat), e = .returned (.tuple #[.agg #[.int .i64 m, .slice a' (len g) c'], .slice pa xs.length pc]) ∧ VA w' w.heap.size g a' ∧ (len g ≤ 1000000000 ∧ Sm g) ∧ PA w' w.heap.size xs pa ∧ xs.length ≤ 1001 ∧ (xs.length ≤ pc ∧ pc ≤ 9223372036854775807 ∧ ((pa = none ∧ pc = 0) ∨ ∃ g, pa = some ⟨g, 0, none⟩)) ∧ Ex w w' := by
  have B : Hid (By w n ca) := hB
  clear hB
  go_enter Try.func35, Try.ntmps35
  go_wp2_with fail
  refine (l6Open_any n cc ca _ hn hc (B.out.ex (Ex.new _ _))).mono ?_
  rintro e w0 ⟨rfl, hR0, hx0⟩
  rw [World.size_alloc] at hR0
  have X0 : Hid (Ex w w0) := (Ex.new _ _).trans hx0
  have hrt0 : w0.heap[w.heap.size]? = some (.cells #[.int .i64 0, .slice none 0 0] 39 (0, 0)) := hx0.blk (heap_alloc_new _ _)
  clear hx0
  go_wp2_with fail
  refine (pick_any _ 0 3 _ (by omega) (by omega) (by omega) hR0).mono ?_
  rintro e w1 ⟨x, rfl, hx1, hx3, hR1, hF1⟩
  have z0 := hR0.blk
  have z1 := hF1.size
  have htk := tk_le x hx1 hx3
  go_wp2_with fail
  refine (l71Type_any (x.toNat + 1) (2 + x) (w.heap.size + 1) (0 + 1) _ (by omega) (by omega) (by omega) hR1).mono ?_
  rintro e w2 ⟨f, a, q0, rfl, ht, hnil, hf, hq0, hq1, hR2, hF2⟩
  have F2 : Hid (Fr (w.heap.size + 1) w0 w2) := hF1.trans hF2
  have z2 := hF2.size
  obtain ⟨W, hW⟩ : ∃ W, W = w2.alloc (.cells #[.slice a (len f) (len f)] 25) := ⟨_, rfl⟩
  have hrt2 : W.heap[w.heap.size]? = some (.cells #[.int .i64 0, .slice none 0 0] 39 (0, 0)) := hW ▸ (Ex.new _ _).blk (F2.out.blk (by omega) hrt0)
  have hb3 : W.cell? ⟨w2.heap.size, 0, none⟩ = some (.slice a (len f) (len f)) := hW ▸ World.cell?_alloc_new _ _ _ _
  have TW : Hid (TA W (w.heap.size + 2) f a) := hW ▸ TA_below (TA_lo ht (by omega)) (Ex.new _ _)
  have T3 : Hid (∀ w', FC (w.heap.size + 1) w.heap.size 2 39 W w' → TA w' (w.heap.size + 2) f a) := fun w' h => TA_kp TW.out (h.kp (by omega) (by omega))
  have FF : Hid (fits (x.toNat + 1 + 1) f = true) := hf
  have R3 : Hid (Rd W (w.heap.size + 1) q0) := hW ▸ hR2.ex (Ex.new _ _)
  have X3 : Hid (Ex w W) := hW ▸ (F2.out.to_ex X0.out (by omega)).alloc _
  have C0 : Hid (FC (w.heap.size + 1) w.heap.size 2 39 W W) := FC.start hrt2 rfl
  have zW : w2.heap.size < W.heap.size := by rw [hW, World.size_alloc]; omega
  have zt : w.heap.size + 1 < w2.heap.size := by omega
  have hd4 := fits_dep _ _ hf
  have SM : Hid (len f ≤ 2 ∧ Sm f) := fits_sm _ _ FF.out
  clear ht hnil hf hR0 hR1 hF1 hF2 hrt0 hR2
  go_wp2_with fail
  rw [← hW]
  clear hW hrt2
  generalize w2.heap.size = t5 at *
  have KS : Hid (∀ w', FC (w.heap.size + 1) w.heap.size 2 39 W w' → (FC (w.heap.size + 1) w.heap.size 2 39 W w' ∧ w'.cell? ⟨t5, 0, none⟩ = some (.slice a (len f) (len f)))) := fun w' h => ⟨h, h.at (by show t5 ≠ _; omega) (by show t5 ≠ _; omega) hb3⟩
  have IB : Hid (∀ (w' : World), FC (w.heap.size + 1) w.heap.size 2 39 W w' → Rd w' (w.heap.size + 1) q0 → Calls Try.prog 68 #[.pointer (some ⟨w.heap.size + 1, 0, none⟩), .agg #[.slice a (len f) (len f)]] w' fun e w'' => ∃ (n : Int) (g : F) (a' : Option Addr) (c' q : Nat), e = .returned (.agg #[.int .i64 n, .slice a' (len g) c']) ∧ VA w'' (w.heap.size + 2) g a' ∧ (len g ≤ 1000000000 ∧ Sm g) ∧ q ≤ q0 + 100 ∧ Rd w'' (w.heap.size + 1) q ∧ Fr (w.heap.size + 1) w' w'') := fun w' h h5 => (l71Bad_any (x.toNat + 1 + 1) f a (len f) (w.heap.size + 2) (w.heap.size + 1) q0 w' (by omega) FF.out (by omega) (by omega) (T3.out _ h) h5).mono fun e w'' ⟨n, g, a'', c'', q, e1, e2, e3, _, _, e6, e7, e4⟩ => ⟨n, g, a'', c'', q, e1, VA_lo e2 (by have := h5.blk; omega), e3, e6, e7, e4⟩
  have IP : Hid (∀ (w' : World) (q : Nat), FC (w.heap.size + 1) w.heap.size 2 39 W w' → q ≤ q0 + 100 → Rd w' (w.heap.size + 1) q → Calls Try.prog 56 #[.pointer (some ⟨w.heap.size + 1, 0, none⟩), .agg #[.slice a (len f) (len f)]] w' fun e w'' => ∃ (v : Value) (xs : List Int), e = .returned v ∧ Own w'' (w.heap.size + 2) v xs ∧ xs.length ≤ 1001 ∧ Fr (w.heap.size + 1) w' w'') := fun w' q h h2 h5 => (l71Any_any f a (len f) (w.heap.size + 2) (w.heap.size + 1) q w' (by omega) (by omega) (by have := SM.out; omega) SM.out.2 (by omega) (T3.out _ h) h5).mono fun e w'' ⟨v, xs, _, e1, e2, e3, _, _, _, e4⟩ => ⟨v, xs, e1, e2.lo (by have := h5.blk; omega), e3, e4⟩
  go_region_held3 (fun w' => FC (w.heap.size + 1) w.heap.size 2 39 W w' ∧ w'.cell? ⟨t5, 0, none⟩ = some (.slice a (len f) (len f))) ((refine KS.out _ ?_; first | exact C0.out.drew | exact FC.fr (And.left ‹FC _ _ _ _ _ _ ∧ _›) ‹Fr _ _ _› (by omega) | exact FC.set (FC.set (And.left ‹FC _ _ _ _ _ _ ∧ _›) _ _) _ _ | exact (And.left ‹FC _ _ _ _ _ _ ∧ _›))) (first | (go_at_call 68; refine (IB.out _ (And.left ‹FC _ _ _ _ _ _ ∧ _›) (R3.out.ex (Ex.refl _).drew)).mono ?_; rintro e w4 ⟨m, g, a', c', q4, rfl, hv4, hsm4, hq4, hR4, hF4⟩) | (go_at_call 56; refine (IP.out _ q4 (And.left ‹FC _ _ _ _ _ _ ∧ _›) hq4 hR4).mono ?_; rintro e w5 ⟨v, xs, rfl, ho5, hxl, hF5⟩; have hcr := FC.fr (And.left ‹FC _ _ _ _ _ _ ∧ _›) hF5 (by omega); obtain ⟨u1, hu1⟩ := hcr.cell 0 (by omega); obtain ⟨u2, hu2⟩ := hcr.cell 1 (by omega); have v1 := hcr.frozen 0; have v2 := hcr.frozen 1))
  obtain ⟨W6, hW6⟩ : ∃ W6, W6 = (w5.setCell ⟨w.heap.size, 0, none⟩ (.int .i64 m)).setCell ⟨w.heap.size, 1, none⟩ (.slice a' (len g) c') := ⟨_, rfl⟩
  have hcf : FC (w.heap.size + 1) w.heap.size 2 39 W W6 := hW6 ▸ FC.set (FC.set hcr _ _) _ _
  have kp6 : Kp (w.heap.size + 2) w5 W6 := hW6 ▸ ((Kp.refl _ _).set (Or.inl (by show w.heap.size < _; omega)) _).set (Or.inl (by show w.heap.size < _; omega)) _
  have ho6 : Own W6 (w.heap.size + 2) v xs := ho5.keep kp6
  obtain ⟨pa, pc, hv, hpa, hpx⟩ := ho6.PA
  subst hv
  have hr0 : W6.cell? ⟨w.heap.size, 0, none⟩ = some (.int .i64 m) := by
    rw [hW6, World.cell?_setCell_other _ _ _ _ (fun e => absurd (congrArg Addr.off e) (by simp))]; exact World.cell?_setCell_same _ _ _ hu1
  have hr1 : W6.cell? ⟨w.heap.size, 1, none⟩ = some (.slice a' (len g) c') := by
    rw [hW6]; exact World.cell?_setCell_same _ _ _ (by rw [World.cell?_setCell_other _ _ _ _ (fun e => absurd (congrArg Addr.off e) (by simp))]; exact hu2)
  have hvf : VA W6 w.heap.size g a' := VA_lo (VA_kp (VA_kp hv4 (hF5.kp (by omega))) kp6) (by omega)
  rw [← hW6]
  clear hW6
  go_wp2_with fail
  exact bodyPost_ret (v := .tuple #[.agg #[.int .i64 m, .slice a' (len g) c'], .slice pa xs.length pc]) (by simp [results, Try.results35, go_sem, hr0, hr1]) rfl ⟨m, g, a', c', xs, pa, pc, rfl, hvf, hsm4, PA_lo hpa (by omega), hxl, hpx, hcf.to_ex X3.out (by omega) (Nat.le_refl _)⟩

end Go.Proofs.Ytomnekiiccbioaa
