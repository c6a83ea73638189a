/- Walks: the type of a value. -/
import Derived.Test.YtngheeeadekdmaaDoorV1

namespace Go.Proofs.YtngheeeadekdmaaDoor

open Go.RowKit Go.Deep

attribute [local go_sem ↓] Go.wp_at_zero Go.wp_at_succ

theorem vType_zero (n : Int) (f : F) : vType 0 n f = none := rfl
theorem vType_num {r : Nat} {n : Int} {f : F} (h : len f = 0) : vType (r + 1) n f = if 0 ≤ n ∧ n ≤ 9999 then some .nil else none := by simp [vType, h]
theorem vType_bad {r : Nat} {n : Int} {f : F} (h : len f ≠ 0) (hb : ¬ (len f = 2 ∧ n = 0)) : vType (r + 1) n f = none := by simp only [vType, if_neg h, if_neg hb]
theorem vType_two {r : Nat} {n : Int} {f : F} (h : len f = 2) (hn : n = 0) : vType (r + 1) n f = (vType r (num f 0) (kid f 0)).bind fun a => (vType r (num f 1) (kid f 1)).bind fun b => some (two 0 a 0 b) := by
  simp only [vType]
  rw [if_neg (by omega), if_pos ⟨h, hn⟩]

set_option maxRecDepth 100000 in
set_option maxHeartbeats 2000000 in
theorem valTypeIn_any : ∀ (r : Nat) (n : Int) (f : F) (a : Option Addr) (cap lo : Nat) (w : World), r ≤ 100 → VA w lo f a →
    Calls Tryd.prog 24 #[.agg #[.int .i64 n, .slice a (len f) cap], .int .i64 r] w fun e w' => ∃ a' c', e = .returned (.tuple #[.agg #[.slice a' (len ((vType r n f).getD .nil)) c'], .bool (vType r n f).isSome]) ∧ TA w' w.heap.size ((vType r n f).getD .nil) a' ∧ Ex w w'
  | 0, n, f, a, cap, lo, w, hr, hT => by
    have V : Hid (vType 0 n f = none) := vType_zero n f
    go_enter Tryd.func24, Tryd.ntmps24
    go_wp2_with fail
    refine bodyPost_ret (v := .tuple #[.agg #[.slice none 0 0], .bool false]) (by simp [results, Tryd.results24, go_sem]) rfl ⟨none, 0, by rw [V.out]; rfl, by rw [V.out]; exact TA_nil _ _ _, ?_⟩
    exact (Ex.new _ _).alloc _
  | r + 1, n, f, a, cap, lo, w, hr, hT => by
    by_cases h0 : len f = 0
    · have h0' : ((len f : Int) == 0) = true := by simp [h0]
      have V' : Hid (vType (r + 1) n f = if 0 ≤ n ∧ n ≤ 9999 then some .nil else none) := vType_num h0
      by_cases hn0 : n < 0
      · have V : Hid (vType (r + 1) n f = none) := by show _ = _; rw [V'.out, if_neg (by omega)]
        have d0 : decide (0 ≤ n) = false := by simp; omega
        clear hn0
        go_enter Tryd.func24, Tryd.ntmps24
        go_wp2_with fail
        go_region
        go_wp2_with fail
        refine bodyPost_ret (v := .tuple #[.agg #[.slice none 0 0], .bool false]) (by simp [results, Tryd.results24, go_sem]) rfl ⟨none, 0, by rw [V.out]; rfl, by rw [V.out]; exact TA_nil _ _ _, ?_⟩
        exact ((Ex.new _ _).alloc _).drew
      · have d0 : decide (0 ≤ n) = true := by simp; omega
        by_cases hn1 : n ≤ 9999
        · have V : Hid (vType (r + 1) n f = some .nil) := by show _ = _; rw [V'.out, if_pos (by omega)]
          have d1 : decide (n ≤ 9999) = true := by simp; omega
          clear hn0 hn1
          go_enter Tryd.func24, Tryd.ntmps24
          go_wp2_with fail
          go_region
          go_wp2_with fail
          refine bodyPost_ret (v := .tuple #[.agg #[.slice none 0 0], .bool true]) (by simp [results, Tryd.results24, go_sem]) rfl ⟨none, 0, by rw [V.out]; rfl, by rw [V.out]; exact TA_nil _ _ _, ?_⟩
          exact ((Ex.new _ _).alloc _).drew
        · have V : Hid (vType (r + 1) n f = none) := by show _ = _; rw [V'.out, if_neg (by omega)]
          have d1 : decide (n ≤ 9999) = false := by simp; omega
          clear hn0 hn1
          go_enter Tryd.func24, Tryd.ntmps24
          go_wp2_with fail
          go_region
          go_wp2_with fail
          refine bodyPost_ret (v := .tuple #[.agg #[.slice none 0 0], .bool false]) (by simp [results, Tryd.results24, go_sem]) rfl ⟨none, 0, by rw [V.out]; rfl, by rw [V.out]; exact TA_nil _ _ _, ?_⟩
          exact ((Ex.new _ _).alloc _).drew
    · have h0' : ((len f : Int) == 0) = false := by simp [h0]
      by_cases hb : ¬ (len f = 2 ∧ n = 0)
      · have V : Hid (vType (r + 1) n f = none) := vType_bad h0 hb
        by_cases h2 : len f = 2
        · have hn : ¬ n = 0 := fun h => hb ⟨h2, h⟩
          have h2' : ((len f : Int) != 2) = false := by simp [h2]
          have hn' : (n != 0) = true := by simp [hn]
          clear h2 hb
          go_enter Tryd.func24, Tryd.ntmps24
          go_wp2_with fail
          refine bodyPost_ret (v := .tuple #[.agg #[.slice none 0 0], .bool false]) (by simp [results, Tryd.results24, go_sem]) rfl ⟨none, 0, by rw [V.out]; rfl, by rw [V.out]; exact TA_nil _ _ _, ?_⟩
          exact ((Ex.new _ _).alloc _)
        · have h2' : ((len f : Int) != 2) = true := by simp; omega
          clear hb
          go_enter Tryd.func24, Tryd.ntmps24
          go_wp2_with fail
          refine bodyPost_ret (v := .tuple #[.agg #[.slice none 0 0], .bool false]) (by simp [results, Tryd.results24, go_sem]) rfl ⟨none, 0, by rw [V.out]; rfl, by rw [V.out]; exact TA_nil _ _ _, ?_⟩
          exact ((Ex.new _ _).alloc _)
      · have hb' : len f = 2 ∧ n = 0 := Classical.not_not.mp hb
        obtain ⟨h2, hn⟩ := hb'
        obtain ⟨b, o, a0, a1, k0, k1, rfl, hlo, hbs, n0, c0, n1, c1, t0, t1⟩ := VA_pair hT h2
        obtain ⟨o0, hv0⟩ : ∃ o0, vType r (num f 0) (kid f 0) = o0 := ⟨_, rfl⟩
        obtain ⟨o1, hv1⟩ : ∃ o1, vType r (num f 1) (kid f 1) = o1 := ⟨_, rfl⟩
        have V : Hid (vType (r + 1) n f = o0.bind fun a => o1.bind fun b => some (two 0 a 0 b)) := by
          show _ = _
          rw [vType_two h2 hn, hv0, hv1]
        have I0 : Hid (∀ w', Ex w w' → Calls Tryd.prog 24 #[.agg #[.int .i64 (num f 0), .slice a0 (len (kid f 0)) k0], .int .i64 r] w' fun e w'' => ∃ a' c', e = .returned (.tuple #[.agg #[.slice a' (len (o0.getD .nil)) c'], .bool o0.isSome]) ∧ TA w'' w'.heap.size (o0.getD .nil) a' ∧ Ex w' w'') := fun w' h => by
          have := valTypeIn_any r (num f 0) (kid f 0) a0 k0 lo w' (by omega) (VA_below t0 h)
          rw [hv0] at this; exact this
        have I1 : Hid (∀ w', Ex w w' → Calls Tryd.prog 24 #[.agg #[.int .i64 (num f 1), .slice a1 (len (kid f 1)) k1], .int .i64 r] w' fun e w'' => ∃ a' c', e = .returned (.tuple #[.agg #[.slice a' (len (o1.getD .nil)) c'], .bool o1.isSome]) ∧ TA w'' w'.heap.size (o1.getD .nil) a' ∧ Ex w' w'') := fun w' h => by
          have := valTypeIn_any r (num f 1) (kid f 1) a1 k1 lo w' (by omega) (VA_below t1 h)
          rw [hv1] at this; exact this
        subst hn
        rw [h2]
        clear hv0 hv1 hb h0 h0' t0 t1 hT h2
        go_enter Tryd.func24, Tryd.ntmps24
        go_wp2_with fail
        refine (I0.out _ ((Ex.new _ _).alloc _)).mono ?_
        rintro e w1 ⟨a2, c2, rfl, ht2, hb2⟩
        have rb : w1.heap[w.heap.size + 1]? = some (.cells #[.slice none 0 0] 41 (0, 0)) := hb2.blk (by have := heap_alloc_new (w.alloc (.cells #[.int .i64 0, .slice (some ⟨b, o, none⟩) 2 cap] 25)) (.cells #[.slice none 0 0] 41); rwa [World.size_alloc] at this)
        have q1 := cell_of_one rb
        have q2 := free_of_one rb
        have q3 : w1.cell? ⟨w.heap.size, 1, none⟩ = some (.slice (some ⟨b, o, none⟩) 2 cap) := hb2.at (by simp)
        have x1 : Ex w w1 := ((Ex.new _ _).alloc _).trans hb2
        have z1 : w.heap.size + 1 < w1.heap.size := lt_of_block rb
        have z0 : w.heap.size < w1.heap.size := by omega
        cases o0 with
        | none =>
          simp only [Option.getD_none, Option.isSome_none, len] at *
          go_wp2_with fail
          have hres : ((w1.setCell ⟨w.heap.size + 1, 0, none⟩ (.slice none 0 0)).alloc (.cells #[.slice a2 0 c2] 41)).cell? ⟨w.heap.size + 1, 0, none⟩ = some (.slice none 0 0) := by
            rw [World.cell?_alloc_lt _ _ _ (by rw [World.size_setCell]; exact z1)]; exact World.cell?_setCell_same _ _ _ q1
          refine bodyPost_ret (v := .tuple #[.agg #[.slice none 0 0], .bool false]) (by simp [results, Tryd.results24, go_sem, hres]) rfl ⟨none, 0, by rw [V.out]; rfl, by rw [V.out]; exact TA_nil _ _ _, (x1.set ?_ _).alloc _⟩
          exact Nat.le_succ _
        | some g0 =>
          simp only [Option.getD_some, Option.isSome_some] at *
          have T2 : Hid (TA w1 (w.heap.size + 2) g0 a2) := by rw [World.size_alloc, World.size_alloc] at ht2; exact ht2
          have p1 := x1.at n1
          have p2 := x1.at c1
          have zb := x1.lt hbs
          clear ht2 n0 n1 c0 c1
          go_wp2_with fail
          refine (I1.out _ (x1.alloc _)).mono ?_
          rintro e w2 ⟨a3, c3, rfl, ht3, hb3⟩
          have rb2 := hb3.blk ((Ex.new _ _).blk rb)
          have q4 := cell_of_one rb2
          have q5 := free_of_one rb2
          have q6 : w2.cell? ⟨w1.heap.size, 0, none⟩ = some (.slice a2 (len g0) c2) := hb3.at (World.cell?_alloc_new _ _ _ _)
          have x2 : Ex w w2 := (x1.alloc _).trans hb3
          have z2 : w.heap.size + 1 < w2.heap.size := lt_of_block rb2
          have z3 : w1.heap.size < w2.heap.size := World.block_lt_of_cell? _ _ q6
          have z4 : w.heap.size < w2.heap.size := by omega
          have T2' : Hid (TA w2 (w.heap.size + 2) g0 a2) := TA_below T2.out ((Ex.new _ _).trans hb3)
          clear q1 q2 q3 p1 p2
          cases o1 with
          | none =>
            simp only [Option.getD_none, Option.isSome_none, len] at *
            go_wp2_with fail
            have hres : ((w2.setCell ⟨w.heap.size + 1, 0, none⟩ (.slice none 0 0)).alloc (.cells #[.slice a3 0 c3] 41)).cell? ⟨w.heap.size + 1, 0, none⟩ = some (.slice none 0 0) := by
              rw [World.cell?_alloc_lt _ _ _ (by rw [World.size_setCell]; exact z2)]; exact World.cell?_setCell_same _ _ _ q4
            refine bodyPost_ret (v := .tuple #[.agg #[.slice none 0 0], .bool false]) (by simp [results, Tryd.results24, go_sem, hres]) rfl ⟨none, 0, by rw [V.out]; rfl, by rw [V.out]; exact TA_nil _ _ _, (x2.set ?_ _).alloc _⟩
            exact Nat.le_succ _
          | some g1 =>
            simp only [Option.getD_some, Option.isSome_some] at *
            have T3 : Hid (TA w2 (w.heap.size + 2) g1 a3) := TA_lo ht3 (by rw [World.size_alloc]; omega)
            clear ht3
            go_wp2_with fail
            have hsz : ((w2.setCell ⟨w.heap.size + 1, 0, none⟩ (.slice (some ⟨w2.heap.size + 1, 0, none⟩) 2 2)).alloc (.cells #[.slice a3 (len g1) c3] 41)).heap.size = w2.heap.size + 1 := by rw [World.size_alloc, World.size_setCell]
            have e0 := World.cell?_alloc_new ((w2.setCell ⟨w.heap.size + 1, 0, none⟩ (.slice (some ⟨w2.heap.size + 1, 0, none⟩) 2 2)).alloc (.cells #[.slice a3 (len g1) c3] 41)) #[.slice a2 (len g0) c2, .slice a3 (len g1) c3] 41 0
            have e1 := World.cell?_alloc_new ((w2.setCell ⟨w.heap.size + 1, 0, none⟩ (.slice (some ⟨w2.heap.size + 1, 0, none⟩) 2 2)).alloc (.cells #[.slice a3 (len g1) c3] 41)) #[.slice a2 (len g0) c2, .slice a3 (len g1) c3] 41 1
            rw [hsz] at e0 e1
            have kp : Kp (w.heap.size + 2) w2 (((w2.setCell ⟨w.heap.size + 1, 0, none⟩ (.slice (some ⟨w2.heap.size + 1, 0, none⟩) 2 2)).alloc (.cells #[.slice a3 (len g1) c3] 41)).alloc (.cells #[.slice a2 (len g0) c2, .slice a3 (len g1) c3] 41)) := (((Kp.refl _ _).set (Or.inl (by show w.heap.size + 1 < w.heap.size + 2; omega)) _).alloc _).alloc _
            have hres : (((w2.setCell ⟨w.heap.size + 1, 0, none⟩ (.slice (some ⟨w2.heap.size + 1, 0, none⟩) 2 2)).alloc (.cells #[.slice a3 (len g1) c3] 41)).alloc (.cells #[.slice a2 (len g0) c2, .slice a3 (len g1) c3] 41)).cell? ⟨w.heap.size + 1, 0, none⟩ = some (.slice (some ⟨w2.heap.size + 1, 0, none⟩) 2 2) := by
              rw [World.cell?_alloc_lt _ _ _ (by rw [hsz]; show w.heap.size + 1 < w2.heap.size + 1; omega), World.cell?_alloc_lt _ _ _ (by rw [World.size_setCell]; exact z2)]; exact World.cell?_setCell_same _ _ _ q4
            refine bodyPost_ret (v := .tuple #[.agg #[.slice (some ⟨w2.heap.size + 1, 0, none⟩) 2 2], .bool true]) (by simp [results, Tryd.results24, go_sem, hres]) rfl ⟨some ⟨w2.heap.size + 1, 0, none⟩, 2, by rw [V.out]; rfl, by rw [V.out]; exact TA_two (f := two 0 g0 0 g1) (k0 := c2) (k1 := c3) rfl (by omega) e0 e1 (TA_lo (TA_kp T2'.out kp) (by omega)) (TA_lo (TA_kp T3.out kp) (by omega)), ((x2.set (Nat.le_succ _) _).alloc _).alloc _⟩

end Go.Proofs.YtngheeeadekdmaaDoor
