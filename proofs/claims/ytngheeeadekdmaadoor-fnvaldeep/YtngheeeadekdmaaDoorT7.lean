/- The law on values that are too deep, walked. -/
import Derived.Test.YtngheeeadekdmaaDoorT3

import Derived.Test.YtngheeeadekdmaaDoorT5

namespace Go.Proofs.YtngheeeadekdmaaDoor

open Go.RowKit Go.Deep

attribute [local go_sem ↓] Go.wp_at_zero Go.wp_at_succ

theorem textV_some {m : Int} {g : F} (h : (textV m g).toList.isEmpty = false) : (vType 4 m g).isSome = true := by
  cases hx : (vType 4 m g).isSome with
  | true => rfl
  | false => rw [textV, hx] at h; simp at h

theorem deep_two {k : Nat} {m : Int} {g : F} (h : ∀ s, (vType s m g).isSome = true → k + 1 ≤ s) : ∀ s, (vType s 0 (two m g 0 .nil)).isSome = true → k + 1 + 1 ≤ s
  | 0, hs => by simp [vType] at hs
  | s + 1, hs => by
    obtain ⟨_, k0, _⟩ := vSome_two hs (by rw [len_two]; omega)
    rw [num_two0, kid_two0] at k0
    have := h s k0
    omega

theorem deep_one (m : Int) (g : F) : ∀ s, (vType s m g).isSome = true → 0 + 1 ≤ s
  | 0, hs => by simp [vType] at hs
  | s + 1, _ => by omega

set_option maxRecDepth 100000 in
set_option maxHeartbeats 4000000 in
theorem lawValDeep (n cc : Nat) (ca : Option Addr) (w : World) (hn : n ≤ cc) (hc : cc ≤ 9223372036854775807) (hB : By w n ca) (ht : Tab w) :
    Calls Tryd.prog 4 #[.slice ca n cc] w fun e w' => e = .returned (.bool true) ∧ Ex w w' := by
  have B : Hid (By w n ca) := hB
  have HT : Hid (∀ w', Ex w w' → Tab w') := fun _ h => ht.ex h
  clear hB ht
  by_cases hbig : 1048576 < n
  · have d1 : decide ((1048576 : Int) < (n : Int)) = true := by simp; omega
    go_enter Tryd.func4, Tryd.ntmps4
    go_wp2_with fail
    go_ret
    exact ⟨rfl, Ex.refl _⟩
  have d1 : decide ((1048576 : Int) < (n : Int)) = false := by simp; omega
  go_enter Tryd.func4, Tryd.ntmps4
  go_wp2_with fail
  refine (DrawValText_any n cc ca w hn hc B.out).mono ?_
  rintro e w1 ⟨m, g, a, c, rfl, hv, hsm, hb1⟩
  have z1 := hb1.size
  have VV : Hid (VS w1 (fun b => b ≠ w1.heap.size) g a) := VS_mono hv fun b hb _ => by show b ≠ _; omega
  have V : Hid (∀ w', Ex w1 w' → VA w' 0 g a) := fun _ h => VA_lo (VA_below hv h) (Nat.zero_le _)
  have SM : Hid (len g ≤ 1000000000 ∧ Sm g) := hsm
  have X1 : Hid (Ex w w1) := hb1
  obtain ⟨W1, hW1⟩ : ∃ W1, W1 = w1.alloc (.cells #[.int .i64 m, .slice a (len g) c] 25) := ⟨_, rfl⟩
  have N1 : Hid (Ex w1 W1) := hW1 ▸ Ex.new _ _
  have CB : Hid (W1.heap[w1.heap.size]? = some (.cells #[.int .i64 m, .slice a (len g) c] 25 (0, 0))) := hW1 ▸ heap_alloc_new _ _
  have C1 : Hid (∀ w', Ex W1 w' → w'.cell? ⟨w1.heap.size, 0, none⟩ = some (.int .i64 m) ∧ w'.cell? ⟨w1.heap.size, 1, none⟩ = some (.slice a (len g) c)) := fun w' h => ⟨h.at (hW1 ▸ World.cell?_alloc_new _ _ _ _), h.at (hW1 ▸ World.cell?_alloc_new _ _ _ _)⟩
  have IT : Hid (∀ w', Ex W1 w' → Calls Tryd.prog 7 #[.agg #[.int .i64 m, .slice a (len g) c]] w' fun e w'' => e = .returned (.string (textV m g)) ∧ Ex w' w'') := fun w' h => iValText_any m g a c 0 w' (V.out _ (N1.out.trans h)) (HT.out _ (X1.out.trans (N1.out.trans h)))
  have ST : Hid (∀ w', Ex W1 w' → Calls Tryd.prog 8 #[.agg #[.int .i64 m, .slice a (len g) c]] w' fun e w'' => e = .returned (.string (textV m g)) ∧ Ex w' w'') := fun w' h => sValText_any m g a c 0 w' SM.out.1 SM.out.2 (V.out _ (N1.out.trans h))
  clear hv hsm hb1
  go_wp2_with fail
  rw [← hW1]
  clear hW1
  have KS : Hid (∀ w', Ex W1 w' → (Ex W1 w' ∧ w'.cell? ⟨w1.heap.size, 0, none⟩ = some (.int .i64 m) ∧ w'.cell? ⟨w1.heap.size, 1, none⟩ = some (.slice a (len g) c))) := fun w' h => ⟨h, (C1.out w' h).1, (C1.out w' h).2⟩
  obtain ⟨s, hsd⟩ : ∃ s, textV m g = s := ⟨_, rfl⟩
  have HSD : Hid (textV m g = s) := hsd
  rw [hsd] at IT ST
  clear hsd
  by_cases hs : s.toList.isEmpty = true
  · go_region_held3 (fun w' => Ex W1 w' ∧ w'.cell? ⟨w1.heap.size, 0, none⟩ = some (.int .i64 m) ∧ w'.cell? ⟨w1.heap.size, 1, none⟩ = some (.slice a (len g) c)) ((refine KS.out _ ?_; first | exact (Ex.refl _).drew | exact (And.left ‹Ex _ _ ∧ _›) | exact Ex.drew (And.left ‹Ex _ _ ∧ _›) | exact Ex.trans (And.left ‹Ex _ _ ∧ _›) ‹Ex _ _›)) (first | (go_at_call_of 7 (Value.slice a (len g) c); refine (IT.out _ (And.left ‹Ex _ _ ∧ _›)).mono ?_; rintro e w1' ⟨rfl, hb0⟩) | (go_at_call_of 8 (Value.slice a (len g) c); refine (ST.out _ (And.left ‹Ex _ _ ∧ _›)).mono ?_; rintro e w2' ⟨rfl, hb1⟩))
    have H3 : Hid (Ex W1 _) := And.left ‹Ex W1 _ ∧ _›
    go_wp2_with fail
    go_region_held3 (fun w' => Ex W1 w' ∧ w'.cell? ⟨w1.heap.size, 0, none⟩ = some (.int .i64 m) ∧ w'.cell? ⟨w1.heap.size, 1, none⟩ = some (.slice a (len g) c)) ((refine KS.out _ ?_; first | exact (Ex.refl _).drew | exact (And.left ‹Ex _ _ ∧ _›) | exact Ex.drew (And.left ‹Ex _ _ ∧ _›) | exact Ex.trans (And.left ‹Ex _ _ ∧ _›) ‹Ex _ _›)) (first | (go_at_call_of 7 (Value.slice a (len g) c); refine (IT.out _ (And.left ‹Ex _ _ ∧ _›)).mono ?_; rintro e w1' ⟨rfl, hb0⟩) | (go_at_call_of 8 (Value.slice a (len g) c); refine (ST.out _ (And.left ‹Ex _ _ ∧ _›)).mono ?_; rintro e w2' ⟨rfl, hb1⟩))
    go_wp2_with fail
    go_ret
    exact ⟨rfl, X1.out.trans (N1.out.trans (And.left ‹Ex W1 _ ∧ _›))⟩
  have hs' : s.toList.isEmpty = false := by simpa using hs
  have HS : Hid ((textV m g).toList.isEmpty = false) := by show _ = _; rw [HSD.out]; exact hs'
  clear hs
  go_region_held3 (fun w' => Ex W1 w' ∧ w'.cell? ⟨w1.heap.size, 0, none⟩ = some (.int .i64 m) ∧ w'.cell? ⟨w1.heap.size, 1, none⟩ = some (.slice a (len g) c)) ((refine KS.out _ ?_; first | exact (Ex.refl _).drew | exact (And.left ‹Ex _ _ ∧ _›) | exact Ex.drew (And.left ‹Ex _ _ ∧ _›) | exact Ex.trans (And.left ‹Ex _ _ ∧ _›) ‹Ex _ _›)) (first | (go_at_call_of 7 (Value.slice a (len g) c); refine (IT.out _ (And.left ‹Ex _ _ ∧ _›)).mono ?_; rintro e w1' ⟨rfl, hb0⟩) | (go_at_call_of 8 (Value.slice a (len g) c); refine (ST.out _ (And.left ‹Ex _ _ ∧ _›)).mono ?_; rintro e w2' ⟨rfl, hb1⟩))
  have H3 : Hid (Ex W1 _) := And.left ‹Ex W1 _ ∧ _›
  go_wp2_with fail
  go_loopw [4] (fun i wr => ∃ (k : Nat) (m : Int) (g : F) (a : Option Addr) (c : Nat), k ≤ 4 ∧ i = .int .i64 k ∧ VS wr (fun b => b ≠ w1.heap.size) g a ∧ (len g ≤ 1000000000 ∧ Sm g) ∧ (∀ s, (vType s m g).isSome = true → k + 1 ≤ s) ∧ (k = 0 → (textV m g).toList.isEmpty = false) ∧ Ex w wr ∧ wr.heap[w1.heap.size]? = some (.cells #[.int .i64 m, .slice a (len g) c] 25 (0, 0))) (fun i _ => 4 - (intOf i).toNat)
  case atStart => exact ⟨0, m, g, a, c, by omega, rfl, VS_ks VV.out (fun b _ hlt => (N1.out.trans H3.out).block b hlt), SM.out, deep_one m g, fun _ => HS.out, X1.out.trans (N1.out.trans H3.out), H3.out.blk CB.out⟩
  case round =>
    clear IT ST KS C1 V VV SM CB N1 H3 HS HSD hs'
    obtain ⟨k, m', g', a', c', hk, rfl, hg, hsm, hdp, hk0, hxw, hbv⟩ := hrel
    have G : Hid (VS wr (fun b => b ≠ w1.heap.size) g' a') := hg
    have SG : Hid (len g' ≤ 1000000000 ∧ Sm g') := hsm
    have DP : Hid (∀ s, (vType s m' g').isSome = true → k + 1 ≤ s) := hdp
    have K0 : Hid (k = 0 → (textV m' g').toList.isEmpty = false) := hk0
    have XW : Hid (Ex w wr) := hxw
    have BV : Hid (wr.heap[w1.heap.size]? = some (.cells #[.int .i64 m', .slice a' (len g') c'] 25 (0, 0))) := hbv
    have KS : Hid (∀ w', Ex wr w' → (Ex wr w' ∧ w'.cell? ⟨w1.heap.size, 0, none⟩ = some (.int .i64 m') ∧ w'.cell? ⟨w1.heap.size, 1, none⟩ = some (.slice a' (len g') c'))) := fun w' h => ⟨h, h.at (two_cell0 BV.out), h.at (two_cell1 BV.out)⟩
    have V : Hid (∀ w', Ex wr w' → VA w' 0 g' a') := fun _ h => VA_below (VS_mono G.out fun b _ _ => Nat.zero_le b) h
    have IT : Hid (∀ w', Ex wr w' → Calls Tryd.prog 7 #[.agg #[.int .i64 m', .slice a' (len g') c']] w' fun e w'' => e = .returned (.string (textV m' g')) ∧ Ex w' w'') := fun w' h => iValText_any m' g' a' c' 0 w' (V.out _ h) (HT.out _ (XW.out.trans h))
    have ST : Hid (∀ w', Ex wr w' → Calls Tryd.prog 8 #[.agg #[.int .i64 m', .slice a' (len g') c']] w' fun e w'' => e = .returned (.string (textV m' g')) ∧ Ex w' w'') := fun w' h => sValText_any m' g' a' c' 0 w' SG.out.1 SG.out.2 (V.out _ h)
    clear hg hsm hdp hk0 hxw hbv
    obtain ⟨s', hsd⟩ : ∃ s, textV m' g' = s := ⟨_, rfl⟩
    have HSD : Hid (textV m' g' = s') := hsd
    rw [hsd] at IT ST
    clear hsd
    have d9 : decide ((k : Int) < 9) = true := by simp; omega
    by_cases hs : s'.toList.isEmpty = true
    · have hk1 : 1 ≤ k := by
        rcases Nat.eq_zero_or_pos k with h | h
        · have := K0.out h; rw [HSD.out, hs] at this; cases this
        · exact h
      have d1 : decide ((1 : Int) ≤ (k : Int)) = true := by simp; omega
      have d4 : decide ((k : Int) ≤ 4) = true := by simp; omega
      obtain ⟨_, c0, c1⟩ := KS.out wr (Ex.refl _)
      go_wp2_with fail
      refine (IT.out wr (Ex.refl _)).mono ?_
      rintro e w2 ⟨rfl, hb2⟩
      obtain ⟨_, e0, e1⟩ := KS.out w2 hb2
      clear c0 c1
      go_wp2_with fail
      refine (ST.out w2 hb2).mono ?_
      rintro e w3 ⟨rfl, hb3⟩
      go_wp2_with fail
      go_ret
      exact ⟨rfl, XW.out.trans (hb2.trans hb3)⟩
    · have hs' : s'.toList.isEmpty = false := by simpa using hs
      have hk3 : k + 1 ≤ 4 := DP.out 4 (textV_some (by rw [HSD.out]; exact hs'))
      clear hs
      obtain ⟨_, c0, c1⟩ := KS.out wr (Ex.refl _)
      go_wp2_with fail
      refine (IT.out wr (Ex.refl _)).mono ?_
      rintro e w2 ⟨rfl, hb2⟩
      have H2 : Hid (Ex wr w2) := hb2
      have B2 := hb2.blk BV.out
      have c5 := lt_of_block B2
      have X2 : Hid (Ex w w2) := XW.out.trans hb2
      have z2 : w.heap.size ≤ w1.heap.size := X1.out.size
      clear c0 c1 hb2
      have c0 := two_cell0 B2
      have c1 := two_cell1 B2
      have c2 := two_free (i := 0) B2
      have c2' := two_free (i := 1) B2
      go_wp2_with fail
      go_roundw
      case rel =>
        have hks : Ks (fun b => b ≠ w1.heap.size) w2 (((w2.setCell ⟨w1.heap.size, 0, none⟩ (.int .i64 0)).setCell ⟨w1.heap.size, 1, none⟩ (.slice (some ⟨w2.heap.size, 0, none⟩) 2 2)).alloc (.cells #[.int .i64 m', .slice a' (len g') c', .int .i64 0, .slice none 0 0] 25)) := fun b hb hlt => by
          rw [Below.heap_alloc _ _ _ (by rw [World.size_setCell, World.size_setCell]; exact hlt), Below.heap_setCell _ _ _ _ hb, Below.heap_setCell _ _ _ _ hb]
        have hnew : ∀ i, (((w2.setCell ⟨w1.heap.size, 0, none⟩ (.int .i64 0)).setCell ⟨w1.heap.size, 1, none⟩ (.slice (some ⟨w2.heap.size, 0, none⟩) 2 2)).alloc (.cells #[.int .i64 m', .slice a' (len g') c', .int .i64 0, .slice none 0 0] 25)).cell? ⟨w2.heap.size, i, none⟩ = #[.int .i64 m', .slice a' (len g') c', .int .i64 0, .slice none 0 0][i]? := fun i => by
          have := World.cell?_alloc_new ((w2.setCell ⟨w1.heap.size, 0, none⟩ (.int .i64 0)).setCell ⟨w1.heap.size, 1, none⟩ (.slice (some ⟨w2.heap.size, 0, none⟩) 2 2)) #[.int .i64 m', .slice a' (len g') c', .int .i64 0, .slice none 0 0] 25 i
          rw [World.size_setCell, World.size_setCell] at this; exact this
        exact ⟨k + 1, 0, two m' g' 0 .nil, some ⟨w2.heap.size, 0, none⟩, 2, hk3, by go_num, VS_two (f := two m' g' 0 .nil) (k0 := c') (k1 := 0) (a1 := none) rfl (by show _ ≠ _; omega) (hnew 0) (hnew 1) (hnew 2) (hnew 3) (VS_ks (VS_ks G.out (fun b _ hlt => H2.out.block b hlt)) hks) (Or.inl rfl), Sm_two m' 0 SG.out ⟨by simp [len], trivial⟩, deep_two DP.out, fun h => by omega, ((X2.out.set (by show _ ≤ w1.heap.size; omega) _).set (by show _ ≤ w1.heap.size; omega) _).alloc _, (Ex.new _ _).blk (two_set B2)⟩
      case measure => simp [intOf]; omega
end Go.Proofs.YtngheeeadekdmaaDoor
