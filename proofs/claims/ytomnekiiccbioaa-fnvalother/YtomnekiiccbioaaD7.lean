/- Walks: values drawn for the laws. -/
import Derived.Test.YtomnekiiccbioaaD6
namespace Go.Proofs.Ytomnekiiccbioaa
open Go.RowKit Go.Deep
attribute [local go_sem ↓] Go.wp_at_zero Go.wp_at_succ

/-- While a region goes on: of W only blocks rb, n and m have turned, and blocks n and m have c and d cells that may be written. -/
def FD (rb n c : Nat) (t : TypeId) (m d : Nat) (u : TypeId) (W w : World) : Prop := (w.os = W.os ∧ w.tape = W.tape ∧ w.output = W.output ∧ W.heap.size ≤ w.heap.size) ∧ (∀ k, k < W.heap.size → k ≠ rb → k ≠ n → k ≠ m → w.heap[k]? = W.heap[k]?) ∧ (∃ vs : Array Value, vs.size = c ∧ w.heap[n]? = some (.cells vs t (0, 0))) ∧ ∃ vs : Array Value, vs.size = d ∧ w.heap[m]? = some (.cells vs u (0, 0))
theorem FD.start {rb n c m d : Nat} {t u : TypeId} {W : World} {vs ws : Array Value} (h : W.heap[n]? = some (.cells vs t (0, 0))) (hc : vs.size = c) (h' : W.heap[m]? = some (.cells ws u (0, 0))) (hd : ws.size = d) : FD rb n c t m d u W W := ⟨⟨rfl, rfl, rfl, Nat.le_refl _⟩, fun _ _ _ _ _ => rfl, ⟨vs, hc, h⟩, ⟨ws, hd, h'⟩⟩
theorem FD.drew {rb n c m d : Nat} {t u : TypeId} {W w : World} (h : FD rb n c t m d u W w) : FD rb n c t m d u W w.drew := h
theorem FD.fr {rb n c m d : Nat} {t u : TypeId} {W w w' : World} (h : FD rb n c t m d u W w) (hf : Fr rb w w') (hn : n ≠ rb) (hm : m ≠ rb) : FD rb n c t m d u W w' := by
  obtain ⟨⟨h1, h2, h3, h4⟩, h5, ⟨vs, h6, h7⟩, ⟨ws, h8, h9⟩⟩ := h
  exact ⟨⟨hf.os.trans h1, hf.tape.trans h2, hf.output.trans h3, Nat.le_trans h4 hf.size⟩, fun k hk e1 e2 e3 => (hf.block k (Nat.lt_of_lt_of_le hk h4) e1).trans (h5 k hk e1 e2 e3), ⟨vs, h6, hf.blk hn h7⟩, ⟨ws, h8, hf.blk hm h9⟩⟩
theorem FD.set {rb n c m d : Nat} {t u : TypeId} {W w : World} (h : FD rb n c t m d u W w) (i : Nat) (v : Value) (hnm : n ≠ m) : FD rb n c t m d u W (w.setCell ⟨n, i, none⟩ v) := by
  obtain ⟨⟨h1, h2, h3, h4⟩, h5, ⟨vs, h6, h7⟩, ⟨ws, h8, h9⟩⟩ := h
  refine ⟨⟨h1, h2, h3, by rw [World.size_setCell]; exact h4⟩, fun k hk e1 e2 e3 => by rw [Below.heap_setCell _ _ _ _ e2]; exact h5 k hk e1 e2 e3, ⟨vs.setIfInBounds i v, by simp [h6], ?_⟩, ⟨ws, h8, by rw [Below.heap_setCell _ _ _ _ (by simpa using hnm.symm)]; exact h9⟩⟩
  simp [World.setCell, Array.getElem?_modify, h7]
theorem FD.set2 {rb n c m d : Nat} {t u : TypeId} {W w : World} (h : FD rb n c t m d u W w) (i : Nat) (v : Value) (hnm : n ≠ m) : FD rb n c t m d u W (w.setCell ⟨m, i, none⟩ v) := by
  obtain ⟨⟨h1, h2, h3, h4⟩, h5, ⟨vs, h6, h7⟩, ⟨ws, h8, h9⟩⟩ := h
  refine ⟨⟨h1, h2, h3, by rw [World.size_setCell]; exact h4⟩, fun k hk e1 e2 e3 => by rw [Below.heap_setCell _ _ _ _ e3]; exact h5 k hk e1 e2 e3, ⟨vs, h6, by rw [Below.heap_setCell _ _ _ _ (by simpa using hnm)]; exact h7⟩, ⟨ws.setIfInBounds i v, by simp [h8], ?_⟩⟩
  simp [World.setCell, Array.getElem?_modify, h9]
theorem FD.cell {rb n c m d : Nat} {t u : TypeId} {W w : World} (h : FD rb n c t m d u W w) (i : Nat) (hi : i < c) : ∃ v, w.cell? ⟨n, i, none⟩ = some v := by
  obtain ⟨_, _, ⟨vs, h6, h7⟩, _⟩ := h
  exact ⟨vs[i]'(by omega), by simp [World.cell?, h7, h6, hi]⟩
theorem FD.cell2 {rb n c m d : Nat} {t u : TypeId} {W w : World} (h : FD rb n c t m d u W w) (i : Nat) (hi : i < d) : ∃ v, w.cell? ⟨m, i, none⟩ = some v := by
  obtain ⟨_, _, _, ⟨vs, h6, h7⟩⟩ := h
  exact ⟨vs[i]'(by omega), by simp [World.cell?, h7, h6, hi]⟩
theorem FD.frozen {rb n c m d : Nat} {t u : TypeId} {W w : World} (h : FD rb n c t m d u W w) (i : Nat) : w.frozen? ⟨n, i, none⟩ = false := by
  obtain ⟨_, _, ⟨vs, h6, h7⟩, _⟩ := h
  simp [World.frozen?, h7]
theorem FD.frozen2 {rb n c m d : Nat} {t u : TypeId} {W w : World} (h : FD rb n c t m d u W w) (i : Nat) : w.frozen? ⟨m, i, none⟩ = false := by
  obtain ⟨_, _, _, ⟨vs, h6, h7⟩⟩ := h
  simp [World.frozen?, h7]
theorem FD.at {rb n c m d : Nat} {t u : TypeId} {W w : World} (h : FD rb n c t m d u W w) {p : Addr} {v : Value} (h1 : p.block ≠ rb) (h2 : p.block ≠ n) (h3 : p.block ≠ m) (hc : W.cell? p = some v) : w.cell? p = some v :=
  (World.cell?_of_block (w := W) (h.2.1 _ (World.block_lt_of_cell? _ _ hc) h1 h2 h3)).trans hc
theorem FD.kp {rb n c m d lo : Nat} {t u : TypeId} {W w : World} (h : FD rb n c t m d u W w) (h1 : rb < lo) (h2 : n < lo) (h3 : m < lo) : Kp lo W w := ⟨h.1.2.2.2, fun k hk hk2 => h.2.1 k hk2 (by omega) (by omega) (by omega)⟩
theorem FD.to_ex {rb n c m d : Nat} {t u : TypeId} {w0 W w : World} (h : FD rb n c t m d u W w) (hx : Ex w0 W) (h1 : w0.heap.size ≤ rb) (h2 : w0.heap.size ≤ n) (h3 : w0.heap.size ≤ m) : Ex w0 w :=
  ⟨h.1.1.trans hx.os, h.1.2.1.trans hx.tape, h.1.2.2.1.trans hx.output, Nat.le_trans hx.size h.1.2.2.2, fun k hk => (h.2.1 k (Nat.lt_of_lt_of_le hk hx.size) (by omega) (by omega) (by omega)).trans (hx.block k hk)⟩

/-- What three stores leave, in whatever order. -/
theorem three_ab {w : World} {p q r : Addr} {u v x : Value} {u0 v0 x0 : Value} (hp : w.cell? p = some u0) (hq : w.cell? q = some v0) (hr : w.cell? r = some x0) (hpq : p ≠ q) (hpr : p ≠ r) (hqr : q ≠ r) :
    (((w.setCell p u).setCell q v).setCell r x).cell? p = some u ∧ (((w.setCell p u).setCell q v).setCell r x).cell? q = some v ∧ (((w.setCell p u).setCell q v).setCell r x).cell? r = some x := by
  refine ⟨?_, ?_, ?_⟩
  · rw [World.cell?_setCell_other _ _ _ _ hpr.symm, World.cell?_setCell_other _ _ _ _ hpq.symm]; exact World.cell?_setCell_same _ _ _ hp
  · rw [World.cell?_setCell_other _ _ _ _ hqr.symm]; exact World.cell?_setCell_same _ _ _ (by rw [World.cell?_setCell_other _ _ _ _ hpq]; exact hq)
  · exact World.cell?_setCell_same _ _ _ (by rw [World.cell?_setCell_other _ _ _ _ hqr, World.cell?_setCell_other _ _ _ _ hpr]; exact hr)

set_option maxRecDepth 100000 in
set_option maxHeartbeats 2000000 in
theorem DrawValOk_any (n cc : Nat) (ca : Option Addr) (w : World) (hn : n ≤ cc) (hc : cc ≤ 9223372036854775807) (hB : By w n ca) :
    Calls Try.prog 31 #[.slice ca n cc] w fun e w' => ∃ (f : F) (a : Option Addr) (cap : Nat) (m : Int) (g : F) (a' : Option Addr) (c' : Nat), e = .returned (.tuple #[.agg #[.slice a (len f) cap], .agg #[.int .i64 m, .slice a' (len g) c']]) ∧ TA w' w.heap.size f a ∧ (len f ≤ 1000000000 ∧ Sm f) ∧ VA w' w.heap.size g a' ∧ (len g ≤ 1000000000 ∧ Sm g) ∧ Ex w w' := by
  have B : Hid (By w n ca) := hB
  clear hB
  go_enter Try.func31, Try.ntmps31
  go_wp2_with fail
  refine (l6Open_any n cc ca _ hn hc (B.out.ex ((Ex.new _ _).alloc _))).mono ?_
  rintro e w0 ⟨rfl, hR0, hx0⟩
  rw [World.size_alloc, World.size_alloc] at hR0
  have x0 : Ex w w0 := ((Ex.new _ _).alloc _).trans hx0
  have hrs0 : w0.heap[w.heap.size]? = some (.cells #[.slice none 0 0] 25 (0, 0)) := hx0.blk ((Ex.new _ _).blk (heap_alloc_new _ _))
  have hrt0 : w0.heap[w.heap.size + 1]? = some (.cells #[.int .i64 0, .slice none 0 0] 39 (0, 0)) := hx0.blk (heap_alloc_at _ _ (by simp))
  have X0 : Hid (Ex w w0) := x0
  clear hx0 x0
  go_wp2_with fail
  refine (pick_any _ 0 4 _ (by omega) (by omega) (by omega) hR0).mono ?_
  rintro e w1 ⟨x, rfl, hx1, hx3, hR1, hF1⟩
  have z0 := hR0.blk
  have z1 := hF1.size
  have htk : tk x.toNat ≤ 7 := by
    have : x.toNat = 0 ∨ x.toNat = 1 ∨ x.toNat = 2 ∨ x.toNat = 3 := by omega
    rcases this with h | h | h | h <;> rw [h] <;> decide
  go_wp2_with fail
  refine (l71Type_any x.toNat (1 + x) (w.heap.size + 2) (0 + 1) _ (by omega) (by omega) (by omega) hR1).mono ?_
  rintro e w2 ⟨f, a, q0, rfl, ht, hnil, hf, hq0, hq1, hR2, hF2⟩
  have F2 : Hid (Fr (w.heap.size + 2) w0 w2) := hF1.trans hF2
  have z2 := hF2.size
  have hrs2 := F2.out.blk (by omega) hrs0
  have hrt2 := F2.out.blk (by omega) hrt0
  have T2 : Hid (TA w2 (w.heap.size + 3) f a) := TA_lo ht (by omega)
  have FF : Hid (fits (x.toNat + 1) f = true) := hf
  clear ht hnil hf hR0 hR1 hF1 hF2 hrs0 hrt0
  go_wp2_with fail
  refine (pick_any _ q0 5 _ (by omega) (by omega) (by omega) (hR2.ex (Ex.new _ _))).mono ?_
  rintro e w3 ⟨y, rfl, hy1, hy3, hR3, hF3⟩
  have z3 : w2.heap.size < w3.heap.size := by have := hF3.size; rw [World.size_alloc] at this; omega
  have hb3 : w3.cell? ⟨w2.heap.size, 0, none⟩ = some (.slice a (len f) (len f)) := hF3.at (by show w2.heap.size ≠ _; omega) (World.cell?_alloc_new _ _ _ _)
  have hrs3 := hF3.blk (by omega) ((Ex.new _ _).blk hrs2)
  have hrt3 := hF3.blk (by omega) ((Ex.new _ _).blk hrt2)
  have T3 : Hid (∀ w', FD (w.heap.size + 2) w.heap.size 1 25 (w.heap.size + 1) 2 39 w3 w' → TA w' (w.heap.size + 3) f a) := fun w' h => TA_kp (TA_kp (TA_kp T2.out (Kp.of_below (Ex.new _ _) _)) (hF3.kp (by omega))) (h.kp (by omega) (by omega) (by omega))
  have R3 : Hid (Rd w3 (w.heap.size + 2) (q0 + 1)) := hR3
  have X3 : Hid (Ex w w3) := (Fr.trans F2.out (Fr.trans (Fr.of_ex (Ex.new _ _) _) hF3)).to_ex X0.out (by omega)
  have C0 : Hid (FD (w.heap.size + 2) w.heap.size 1 25 (w.heap.size + 1) 2 39 w3 w3) := FD.start hrs3 rfl hrt3 rfl
  generalize w2.heap.size = t5 at *
  have KS : Hid (∀ w', FD (w.heap.size + 2) w.heap.size 1 25 (w.heap.size + 1) 2 39 w3 w' → (FD (w.heap.size + 2) w.heap.size 1 25 (w.heap.size + 1) 2 39 w3 w' ∧ w'.cell? ⟨t5, 0, none⟩ = some (.slice a (len f) (len f)))) := fun w' h => ⟨h, h.at (by show t5 ≠ _; omega) (by show t5 ≠ _; omega) (by show t5 ≠ _; omega) hb3⟩
  have SM : Hid (len f ≤ 1000000000 ∧ Sm f) := by have := fits_sm _ _ FF.out; exact ⟨by omega, this.2⟩
  have IB : Hid (∀ (w' : World) (f' : F) (a' : Option Addr) (c' q r : Nat), r ≤ 4 → fits r f' = true → q ≤ 50000 → TA w' (w.heap.size + 3) f' a' → Rd w' (w.heap.size + 2) q → Calls Try.prog 68 #[.pointer (some ⟨w.heap.size + 2, 0, none⟩), .agg #[.slice a' (len f') c']] w' fun e w'' => ∃ (n : Int) (g : F) (a' : Option Addr) (c' : Nat), e = .returned (.agg #[.int .i64 n, .slice a' (len g) c']) ∧ VA w'' (w.heap.size + 3) g a' ∧ (len g ≤ 1000000000 ∧ Sm g) ∧ Fr (w.heap.size + 2) w' w'') := fun w' f' a' c' q r h1 h2 h3 h4 h5 => (l71Bad_any r f' a' c' (w.heap.size + 3) (w.heap.size + 2) q w' h1 h2 (by omega) h3 h4 h5).mono fun e w'' ⟨n, g, a'', c'', _, e1, e2, e3, _, _, _, _, e4⟩ => ⟨n, g, a'', c'', e1, VA_lo e2 (by have := h5.blk; omega), e3, e4⟩
  have FIN : Hid (∀ (w4 W : World) (m : Int) (g : F) (a' : Option Addr) (c' : Nat), FD (w.heap.size + 2) w.heap.size 1 25 (w.heap.size + 1) 2 39 w3 w4 → VA w4 (w.heap.size + 3) g a' → (len g ≤ 1000000000 ∧ Sm g) → W = ((w4.setCell ⟨w.heap.size, 0, none⟩ (.slice a (len f) (len f))).setCell ⟨w.heap.size + 1, 0, none⟩ (.int .i64 m)).setCell ⟨w.heap.size + 1, 1, none⟩ (.slice a' (len g) c') →
      (W.cell? ⟨w.heap.size, 0, none⟩ = some (.slice a (len f) (len f)) ∧ W.cell? ⟨w.heap.size + 1, 0, none⟩ = some (.int .i64 m) ∧ W.cell? ⟨w.heap.size + 1, 1, none⟩ = some (.slice a' (len g) c')) ∧ TA W w.heap.size f a ∧ (len f ≤ 1000000000 ∧ Sm f) ∧ VA W w.heap.size g a' ∧ (len g ≤ 1000000000 ∧ Sm g) ∧ Ex w W) := fun w4 W m g a' c' h1 h2 h3 hW => by
    subst hW
    obtain ⟨u0, hu0⟩ := h1.cell 0 (by omega)
    obtain ⟨u1, hu1⟩ := h1.cell2 0 (by omega)
    obtain ⟨u2, hu2⟩ := h1.cell2 1 (by omega)
    have h4 := ((h1.set 0 (.slice a (len f) (len f)) (by omega)).set2 0 (.int .i64 m) (by omega)).set2 1 (.slice a' (len g) c') (by omega)
    exact ⟨three_ab hu0 hu1 hu2 (fun e => absurd (congrArg Addr.block e) (by simp)) (fun e => absurd (congrArg Addr.block e) (by simp)) (fun e => absurd (congrArg Addr.off e) (by simp)), TA_lo (T3.out _ h4) (by omega), SM.out, VA_lo (VA_kp h2 ((((Kp.refl _ _).set (Or.inl (by show w.heap.size < _; omega)) _).set (Or.inl (by show w.heap.size + 1 < _; omega)) _).set (Or.inl (by show w.heap.size + 1 < _; omega)) _)) (by omega), h3, h4.to_ex X3.out (by omega) (by omega) (by omega)⟩
  clear hR2 hR3 hF3 hrs2 hrt2 hrs3 hrt3
  by_cases hy : y = 0
  · subst hy
    have IT : Hid _ := fun (w' : World) (h : Rd w' (w.heap.size + 2) (q0 + 1)) => l71Type_any 2 3 (w.heap.size + 2) (q0 + 1) w' (by omega) (by omega) (by simp only [tk]; omega) h
    go_wp2_with fail
    go_region_held3 (fun w' => FD (w.heap.size + 2) w.heap.size 1 25 (w.heap.size + 1) 2 39 w3 w' ∧ w'.cell? ⟨t5, 0, none⟩ = some (.slice a (len f) (len f))) ((refine KS.out _ ?_; first | exact C0.out.drew | exact FD.fr (And.left ‹FD _ _ _ _ _ _ _ _ _ ∧ _›) ‹Fr _ _ _› (by omega) (by omega) | exact FD.set (And.left ‹FD _ _ _ _ _ _ _ _ _ ∧ _›) _ _ (by omega) | exact FD.set2 (FD.set2 (And.left ‹FD _ _ _ _ _ _ _ _ _ ∧ _›) _ _ (by omega)) _ _ (by omega))) (first | (go_at_call 66; refine (IT.out _ (R3.out.ex (Ex.refl _).drew)).mono ?_; rintro e w5 ⟨f5, a5, q5, rfl, ht5, hn5, hf5, hq5, hq5', hR5, hF5⟩; simp only [tk] at hq5') | (go_at_call 68; refine (IB.out _ f5 a5 _ q5 3 (by omega) hf5 (by omega) (TA_lo ht5 (by show w.heap.size + 3 ≤ w3.heap.size; omega)) hR5).mono ?_; rintro e w4 ⟨m, g, a', c', rfl, hv4, hsm4, hF4⟩; have hcr := FD.fr (And.left ‹FD _ _ _ _ _ _ _ _ _ ∧ _›) hF4 (by omega) (by omega); obtain ⟨u0, hu0⟩ := hcr.cell 0 (by omega); obtain ⟨u1, hu1⟩ := hcr.cell2 0 (by omega); obtain ⟨u2, hu2⟩ := hcr.cell2 1 (by omega); have v0 := hcr.frozen 0; have v1 := hcr.frozen2 0; have v2 := hcr.frozen2 1))
    go_wp2_with fail
    obtain ⟨⟨hr0, hr1, hr2⟩, hfin⟩ := FIN.out w4 _ m g a' c' hcr hv4 hsm4 rfl
    exact bodyPost_ret (v := .tuple #[.agg #[.slice a (len f) (len f)], .agg #[.int .i64 m, .slice a' (len g) c']]) (by simp [results, Try.results31, go_sem, hr0, hr1, hr2]) rfl ⟨f, a, len f, m, g, a', c', rfl, hfin⟩
  · have e0 : (y == 0) = false := by simp; omega
    go_wp2_with fail
    go_region_held3 (fun w' => FD (w.heap.size + 2) w.heap.size 1 25 (w.heap.size + 1) 2 39 w3 w' ∧ w'.cell? ⟨t5, 0, none⟩ = some (.slice a (len f) (len f))) ((refine KS.out _ ?_; first | exact C0.out.drew | exact FD.fr (And.left ‹FD _ _ _ _ _ _ _ _ _ ∧ _›) ‹Fr _ _ _› (by omega) (by omega) | exact FD.set (And.left ‹FD _ _ _ _ _ _ _ _ _ ∧ _›) _ _ (by omega) | exact FD.set2 (FD.set2 (And.left ‹FD _ _ _ _ _ _ _ _ _ ∧ _›) _ _ (by omega)) _ _ (by omega))) (first | (go_at_call 68; refine (IB.out _ f a _ (q0 + 1) (x.toNat + 1) (by omega) FF.out (by omega) (T3.out _ (And.left ‹FD _ _ _ _ _ _ _ _ _ ∧ _›)) (R3.out.ex (Ex.refl _).drew)).mono ?_; rintro e w4 ⟨m, g, a', c', rfl, hv4, hsm4, hF4⟩; have hcr := FD.fr (And.left ‹FD _ _ _ _ _ _ _ _ _ ∧ _›) hF4 (by omega) (by omega); obtain ⟨u0, hu0⟩ := hcr.cell 0 (by omega); obtain ⟨u1, hu1⟩ := hcr.cell2 0 (by omega); obtain ⟨u2, hu2⟩ := hcr.cell2 1 (by omega); have v0 := hcr.frozen 0; have v1 := hcr.frozen2 0; have v2 := hcr.frozen2 1))
    go_wp2_with fail
    obtain ⟨⟨hr0, hr1, hr2⟩, hfin⟩ := FIN.out w4 _ m g a' c' hcr hv4 hsm4 rfl
    exact bodyPost_ret (v := .tuple #[.agg #[.slice a (len f) (len f)], .agg #[.int .i64 m, .slice a' (len g) c']]) (by simp [results, Try.results31, go_sem, hr0, hr1, hr2]) rfl ⟨f, a, len f, m, g, a', c', rfl, hfin⟩

end Go.Proofs.Ytomnekiiccbioaa
