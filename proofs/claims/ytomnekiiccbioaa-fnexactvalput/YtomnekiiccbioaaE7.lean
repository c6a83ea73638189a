/- Walks: what the exact laws do with values, in memory of their own. -/
import Derived.Test.YtomnekiiccbioaaE6
import Derived.Test.YtomnekiiccbioaaV15
namespace Go.Proofs.Ytomnekiiccbioaa
open Go.RowKit Go.Deep
attribute [local go_sem ↓] Go.wp_at_zero Go.wp_at_succ

set_option maxRecDepth 100000 in
set_option maxHeartbeats 2000000 in
theorem szValN_both : ∀ (d : Nat), (∀ (f : F) (a : Option Addr) (c lo : Nat) (l : Int) (w : World), dep f < d → len f ≤ 9223372036854775807 → Lm f → 0 ≤ l → l ≤ 1048576 → VA w lo f a →
      Calls Try.prog 86 #[.slice a (len f) c, .int .i64 l] w fun e w' => ∃ x : Int, e = .returned (.int .i64 x) ∧ -1 ≤ x ∧ x ≤ l ∧ (0 ≤ x → (len f ≤ 1048576 ∧ Sm f) ∧ x + sz f ≤ l) ∧ Ex w w') ∧
    (∀ (n : Int) (f : F) (a : Option Addr) (c lo : Nat) (l : Int) (w : World), dep f < d → len f ≤ 9223372036854775807 → Lm f → 0 ≤ l → l ≤ 1048576 → VA w lo f a →
      Calls Try.prog 49 #[.agg #[.int .i64 n, .slice a (len f) c], .int .i64 l] w fun e w' => ∃ x : Int, e = .returned (.int .i64 x) ∧ -1 ≤ x ∧ x ≤ l ∧ (0 ≤ x → (len f ≤ 1048576 ∧ Sm f) ∧ x + sz f ≤ l) ∧ Ex w w') := by
  intro d
  induction d with
  | zero => exact ⟨fun f a c lo l w hd => by omega, fun n f a c lo l w hd => by omega⟩
  | succ d ih =>
    have hS : ∀ (f : F) (a : Option Addr) (c lo : Nat) (l : Int) (w : World), dep f < d + 1 → len f ≤ 9223372036854775807 → Lm f → 0 ≤ l → l ≤ 1048576 → VA w lo f a →
      Calls Try.prog 86 #[.slice a (len f) c, .int .i64 l] w fun e w' => ∃ x : Int, e = .returned (.int .i64 x) ∧ -1 ≤ x ∧ x ≤ l ∧ (0 ≤ x → (len f ≤ 1048576 ∧ Sm f) ∧ x + sz f ≤ l) ∧ Ex w w' := by
      intro f a c lo l w hd hlen hlm hl0 hl1 hT
      have T : Hid (VA w lo f a) := hT
      have I : Hid _ := ih.2
      have LM : Hid (Lm f) := hlm
      clear hT hlm
      by_cases hneg : l - len f < 0
      · go_enter Try.func86, Try.ntmps86
        go_wp2_with fail
        go_ret
        exact ⟨-1, rfl, by omega, by omega, fun h => by omega, Ex.refl _⟩
      · go_enter Try.func86, Try.ntmps86
        go_wp2_with fail
        go_loopw [1, 5] (fun lv i wr => ∃ (k : Nat) (x : Int), k ≤ len f ∧ i = .int .i64 k ∧ lv = .int .i64 x ∧ 0 ≤ x ∧ x ≤ l ∧ x + len f + off f k ≤ l + k ∧ SmTo f k ∧ Ex w wr) (fun _ i _ => len f - (intOf i).toNat)
        case atStart => exact ⟨0, l - len f, Nat.zero_le _, rfl, rfl, by omega, by omega, by rw [off_zero]; omega, fun j hj => by omega, Ex.refl _⟩
        case round =>
          obtain ⟨k, x, hk, rfl, rfl, hx0, hxl, hxo, hsm, hx⟩ := hrel
          have ST : Hid (SmTo f k) := hsm
          have XO : Hid (x + len f + off f k ≤ l + k) := hxo
          clear hsm hxo
          by_cases hlt : k < len f
          · obtain ⟨b, o, rfl, hlo, hbs, hkk⟩ := VA_at (VA_below T.out hx) (by omega)
            obtain ⟨hn1, a1, k1, hc1, ht1⟩ := hkk k hlt
            have T1 : Hid (VA wr lo (kid f k) a1) := ht1
            clear hkk ht1
            go_wp2_with fail
            refine (I.out (num f k) (kid f k) a1 k1 lo x _ (by have := dep_kid f k hlt; omega) (Lm_kid LM.out k hlt).1 (Lm_kid LM.out k hlt).2 hx0 (by omega) T1.out).mono ?_
            rintro e w1 ⟨y, rfl, hy0, hy1, hysm, hb1⟩
            have YS : Hid (0 ≤ y → (len (kid f k) ≤ 1048576 ∧ Sm (kid f k)) ∧ y + sz (kid f k) ≤ x) := hysm
            clear hysm
            by_cases hy : y < 0
            · go_wp2_with fail
              go_ret
              exact ⟨-1, rfl, by omega, by omega, fun h => by omega, hx.trans hb1⟩
            · go_wp2_with fail
              go_roundw
              case rel => exact ⟨k + 1, y, by omega, by go_num, rfl, by omega, by omega, by have h1 := XO.out; have h2 := (YS.out (by omega)).2; rw [off_succ f k hlt]; push_cast; omega, fun j hj => by
                by_cases hj' : j < k
                · exact ST.out j hj'
                · rw [show j = k by omega]; have := (YS.out (by omega)).1; exact ⟨by omega, this.2⟩, hx.trans hb1⟩
              case measure => simp [intOf]; omega
          · go_wp2_with fail
            go_ret
            exact ⟨x, rfl, by omega, hxl, fun _ => ⟨⟨by omega, Sm_of (by rw [show len f = k by omega]; exact ST.out)⟩, by have h1 := XO.out; rw [show k = len f by omega, off_len] at h1; omega⟩, hx⟩
    refine ⟨hS, ?_⟩
    intro n f a c lo l w hd hlen hlm hl0 hl1 hT
    have HS : Hid _ := hS
    clear hS ih
    go_enter Try.func49, Try.ntmps49
    go_wp2_with fail
    refine (HS.out f a c lo l _ hd hlen hlm hl0 hl1 (VA_below hT (Ex.new _ _))).mono ?_
    rintro e w1 ⟨y, rfl, hy0, hy1, hysm, hb1⟩
    have YS : Hid (0 ≤ y → (len f ≤ 1048576 ∧ Sm f) ∧ y + sz f ≤ l) := hysm
    clear hysm
    by_cases hy : y < 0
    · go_wp2_with fail
      go_ret
      exact ⟨-1, rfl, by omega, by omega, fun h => by omega, (Ex.new _ _).trans hb1⟩
    · go_wp2_with fail
      go_ret
      exact ⟨y, rfl, by omega, by omega, YS.out, (Ex.new _ _).trans hb1⟩


set_option maxRecDepth 100000 in
set_option maxHeartbeats 2000000 in
theorem toValO_both : ∀ (d : Nat), (∀ (f : F) (a : Option Addr) (c lo : Nat) (w : World), dep f < d → len f ≤ 1000000000 → Sm f → VA w lo f a →
      Calls Try.prog 87 #[.slice a (len f) c] w fun e w' => ∃ a' c', e = .returned (.slice a' (len f) c') ∧ VO d w' (fun b => w.heap.size ≤ b) f a' ∧ Ex w w') ∧
    (∀ (n : Int) (f : F) (a : Option Addr) (c lo : Nat) (w : World), dep f < d → len f ≤ 1000000000 → Sm f → VA w lo f a →
      Calls Try.prog 50 #[.agg #[.int .i64 n, .slice a (len f) c]] w fun e w' => ∃ a' c', e = .returned (.agg #[.int .i64 n, .slice a' (len f) c']) ∧ VO d w' (fun b => w.heap.size ≤ b) f a' ∧ Ex w w') := by
  intro d
  induction d with
  | zero => exact ⟨fun f a c lo w hd => by omega, fun n f a c lo w hd => by omega⟩
  | succ d ih =>
    have hS : ∀ (f : F) (a : Option Addr) (c lo : Nat) (w : World), dep f < d + 1 → len f ≤ 1000000000 → Sm f → VA w lo f a →
      Calls Try.prog 87 #[.slice a (len f) c] w fun e w' => ∃ a' c', e = .returned (.slice a' (len f) c') ∧ VO (d + 1) w' (fun b => w.heap.size ≤ b) f a' ∧ Ex w w' := by
      intro f a c lo w hd hl hs hT
      have T : Hid (VA w lo f a) := hT
      have I : Hid _ := ih.2
      have SS : Hid (Sm f) := hs
      clear hT ih hs
      obtain ⟨i0, hi, hz0, hz1, hz2⟩ := info_parts Try.info39
      have hmk : ∀ w : World, (Instr.makeSlice 37 (.int .i64 (len f : Int)) (.int .i64 (len f : Int))).run Try.prog w = .ok (.slice (some ⟨w.heap.size, 0, none⟩) (len f) (len f)) (w.alloc (.cells (madeCells #[.int .i64 0, .slice none 0 0] (len f * 2)) 39)) := fun w => by
        have := run_make (P := Try.prog) w 37 39 i0 _ Try.underlying37 hi hz0 .i64 .i64 (len f : Int) (len f : Int) (by omega) (by omega) (by rw [hz2]; omega) (by omega)
        rw [hz1] at this
        simpa [Value.cells] using this
      clear hz0 hz1 hz2 hi
      go_enter Try.func87, Try.ntmps87
      go_wp2_with fail
      go_loopw [4] (fun i wr => ∃ (k : Nat) (cur : Array Value), k ≤ len f ∧ i = .int .i64 k ∧ Ex w wr ∧ wr.heap[w.heap.size]? = some (.cells cur 39 (0, 0)) ∧ cur.size = len f * 2 ∧ ∃ B : Nat → Nat, (∀ i j, i ≤ j → j ≤ k → B i ≤ B j) ∧ w.heap.size < B 0 ∧ B k ≤ wr.heap.size ∧ (∀ j, j < k → cur[j * 2]? = some (.int .i64 (num f j)) ∧ ∃ a' c', cur[j * 2 + 1]? = some (.slice a' (len (kid f j)) c') ∧ VO d wr (fun b => B j ≤ b ∧ b < B (j + 1)) (kid f j) a')) (fun i _ => len f - (intOf i).toNat)
      case atStart => exact ⟨0, madeCells #[.int .i64 0, .slice none 0 0] (len f * 2), Nat.zero_le _, rfl, Ex.new _ _, heap_alloc_new _ _, size_madeCells _ _, fun _ => w.heap.size + 1, fun _ _ _ _ => Nat.le_refl _, Nat.lt_succ_self _, by show w.heap.size + 1 ≤ _; rw [World.size_alloc]; exact Nat.le_refl _, fun j hj => by omega⟩
      case round =>
        obtain ⟨k, cur, hk, rfl, hx, hob, hcs, B, hBm, hB0, hBk, hkids⟩ := hrel
        have KI : Hid _ := hkids
        have BM : Hid (∀ i j, i ≤ j → j ≤ k → B i ≤ B j) := hBm
        have BB : Hid (w.heap.size < B 0 ∧ B k ≤ wr.heap.size) := ⟨hB0, hBk⟩
        clear hBm hB0 hBk
        have HCS : Hid (cur.size = len f * 2) := hcs
        clear hkids hcs
        by_cases hlt : k < len f
        · obtain ⟨b, o, rfl, hlo, hbs, hkk⟩ := VA_at (VA_below T.out hx) (by omega)
          obtain ⟨hn1, a1, k1, hc1, ht1⟩ := hkk k hlt
          have T1 : Hid (VA wr lo (kid f k) a1) := ht1
          clear hkk ht1
          go_wp2_with fail
          refine (I.out (num f k) (kid f k) a1 k1 lo _ (by have := dep_kid f k hlt; omega) (Sm_kid SS.out k hlt).1 (Sm_kid SS.out k hlt).2 T1.out).mono ?_
          rintro e w1 ⟨a2, k2, rfl, ht2, hb1⟩
          have hob1 := hb1.blk hob
          have cc : w1.cell? ⟨w.heap.size, k * 2, none⟩ = some (cur[k * 2]'(by have := HCS.out; omega)) := by simp [World.cell?, hob1]
          have cd : w1.cell? ⟨w.heap.size, k * 2 + 1, none⟩ = some (cur[k * 2 + 1]'(by have := HCS.out; omega)) := by simp [World.cell?, hob1]
          have cf : w1.frozen? ⟨w.heap.size, k * 2, none⟩ = false := by simp [World.frozen?, hob1]
          have cg : w1.frozen? ⟨w.heap.size, k * 2 + 1, none⟩ = false := by simp [World.frozen?, hob1]
          have T2 : Hid (VO d w1 (fun b => wr.heap.size ≤ b) (kid f k) a2) := ht2
          have zr : w.heap.size < wr.heap.size := lt_of_block hob
          clear ht2
          go_wp2_with fail
          go_roundw
          case rel =>
            have hs1 := hb1.size
            obtain ⟨B', hL, hR⟩ : ∃ B' : Nat → Nat, (∀ i, i ≤ k → B' i = B i) ∧ (∀ i, ¬ i ≤ k → B' i = w1.heap.size) := ⟨fun i => if i ≤ k then B i else w1.heap.size, fun i hi => if_pos hi, fun i hi => if_neg hi⟩
            refine ⟨k + 1, (cur.setIfInBounds (k * 2) (.int .i64 (num f k))).setIfInBounds (k * 2 + 1) (.slice a2 (len (kid f k)) k2), by omega, by go_num, ((hx.trans hb1).set (Nat.le_refl _) _).set (Nat.le_refl _) _, ?_, by simp [HCS.out], B', fun i j hij hj => ?_, ?_, ?_, fun j hj => ?_⟩
            · simp [World.setCell, Array.getElem?_modify, hob1]
            · by_cases h1 : j ≤ k
              · rw [hL i (by omega), hL j h1]; exact BM.out i j hij h1
              · rw [hR j h1]
                by_cases h2 : i ≤ k
                · rw [hL i h2]; have := BM.out i k h2 (Nat.le_refl _); have := BB.out.2; omega
                · rw [hR i h2]; exact Nat.le_refl _
            · rw [hL 0 (Nat.zero_le _)]; exact BB.out.1
            · rw [hR (k + 1) (by omega), World.size_setCell, World.size_setCell]; exact Nat.le_refl _
            · have hks : Ks (fun b => w.heap.size < b) w1 ((w1.setCell ⟨w.heap.size, k * 2, none⟩ (.int .i64 (num f k))).setCell ⟨w.heap.size, k * 2 + 1, none⟩ (.slice a2 (len (kid f k)) k2)) := fun b hb _ => by
                rw [Below.heap_setCell _ _ _ _ (by show b ≠ w.heap.size; omega), Below.heap_setCell _ _ _ _ (by show b ≠ w.heap.size; omega)]
              by_cases hj' : j < k
              · obtain ⟨h2, a3, k3, h3, h4⟩ := KI.out j hj'
                have hb0 := BM.out 0 j (Nat.zero_le _) (by omega)
                have hB := BB.out.1
                refine ⟨?_, a3, k3, ?_, ?_⟩
                · rw [Array.getElem?_setIfInBounds_ne (by omega), Array.getElem?_setIfInBounds_ne (by omega)]; exact h2
                · rw [Array.getElem?_setIfInBounds_ne (by omega), Array.getElem?_setIfInBounds_ne (by omega)]; exact h3
                · rw [hL j (by omega), hL (j + 1) (by omega)]
                  exact (h4.ex hb1).ks fun b hb hlt' => hks b (by have := hb.1; omega) hlt'
              · have e : j = k := by omega
                subst e
                have hc := HCS.out
                have hB := BB.out
                have hb0 := BM.out 0 j (Nat.zero_le _) (Nat.le_refl _)
                refine ⟨?_, a2, k2, ?_, ?_⟩
                · rw [Array.getElem?_setIfInBounds_ne (by omega), Array.getElem?_setIfInBounds_self, if_pos (by omega)]
                · rw [Array.getElem?_setIfInBounds_self, if_pos (by rw [Array.size_setIfInBounds]; omega)]
                · rw [hL j (Nat.le_refl _), hR (j + 1) (by omega)]
                  refine (T2.out.mono fun b hb hs => ?_).ks fun b hb hlt' => hks b (by have := hb.1; omega) hlt'
                  have : wr.heap.size ≤ b := hs
                  exact ⟨by omega, hb⟩
          case measure => simp [intOf]; omega
        · go_wp2_with fail
          go_ret
          refine ⟨_, _, rfl, Or.inr ⟨w.heap.size, cur, fun i b => B i ≤ b ∧ b < B (i + 1), rfl, Nat.le_refl _, hob, fun i hi => ?_⟩, hx⟩
          have hB := BB.out.1
          have hb0 := BM.out 0 i (Nat.zero_le _) (by omega)
          obtain ⟨h2, a3, k3, h3, h4⟩ := KI.out i (by omega)
          refine ⟨fun b hb => ⟨by show w.heap.size ≤ b; have := hb.1; omega, by have := hb.1; omega⟩, fun j hj hne b hb hb' => ?_, h2, a3, k3, h3, h4⟩
          rcases Nat.lt_or_gt_of_ne hne with h | h
          · have := BM.out (j + 1) i (by omega) (by omega); have := hb.1; have := hb'.2; omega
          · have := BM.out (i + 1) j (by omega) (by omega); have := hb.2; have := hb'.1; omega
    refine ⟨hS, ?_⟩
    intro n f a c lo w hd hl hs hT
    have HS : Hid _ := hS
    clear hS ih
    go_enter Try.func50, Try.ntmps50
    go_wp2_with fail
    refine (HS.out f a c lo _ hd hl hs (VA_below hT (((Ex.new _ _).alloc _).alloc _))).mono ?_
    rintro e w1 ⟨a1, k1, rfl, ht1, hb1⟩
    have hx1 : Ex w w1 := (((Ex.new _ _).alloc _).alloc _).trans hb1
    have b1 : w1.heap[w.heap.size + 1]? = some (.cells #[.int .i64 0, .slice none 0 0] 39 (0, 0)) := hb1.blk ((Ex.new _ _).blk (heap_alloc_at _ _ (by simp)))
    have b2 : w1.heap[w.heap.size + 1 + 1]? = some (.cells #[.int .i64 n, .slice none 0 0] 39 (0, 0)) := hb1.blk (heap_alloc_at _ _ (by simp))
    have c0 : w1.cell? ⟨w.heap.size + 1, 0, none⟩ = some (.int .i64 0) := by simp [World.cell?, b1]
    have c1 : w1.cell? ⟨w.heap.size + 1, 1, none⟩ = some (.slice none 0 0) := by simp [World.cell?, b1]
    have f0 : w1.frozen? ⟨w.heap.size + 1, 0, none⟩ = false := by simp [World.frozen?, b1]
    have f1 : w1.frozen? ⟨w.heap.size + 1, 1, none⟩ = false := by simp [World.frozen?, b1]
    have d0 : w1.cell? ⟨w.heap.size + 1 + 1, 0, none⟩ = some (.int .i64 n) := by simp [World.cell?, b2]
    have d1 : w1.cell? ⟨w.heap.size + 1 + 1, 1, none⟩ = some (.slice none 0 0) := by simp [World.cell?, b2]
    have g1 : w1.frozen? ⟨w.heap.size + 1 + 1, 1, none⟩ = false := by simp [World.frozen?, b2]
    have T1 : Hid (VO (d + 1) w1 (fun b => (((w.alloc (.cells #[.int .i64 n, .slice a (len f) c] 64)).alloc (.cells #[.int .i64 0, .slice none 0 0] 39)).alloc (.cells #[.int .i64 n, .slice none 0 0] 39)).heap.size ≤ b) f a1) := ht1
    clear ht1
    go_wp2_with fail
    have e0 : (w1.setCell ⟨w.heap.size + 1 + 1, 1, none⟩ (.slice a1 (len f) k1)).cell? ⟨w.heap.size + 1, 0, none⟩ = some (.int .i64 0) := by
      rw [World.cell?_setCell_other _ _ _ _ (fun e => absurd (congrArg Addr.block e) (by show w.heap.size + 1 + 1 ≠ w.heap.size + 1; omega))]; exact c0
    have e1 : ((w1.setCell ⟨w.heap.size + 1 + 1, 1, none⟩ (.slice a1 (len f) k1)).setCell ⟨w.heap.size + 1, 0, none⟩ (.int .i64 n)).cell? ⟨w.heap.size + 1, 1, none⟩ = some (.slice none 0 0) := by
      rw [World.cell?_setCell_other _ _ _ _ (fun e => absurd (congrArg Addr.off e) (by simp)), World.cell?_setCell_other _ _ _ _ (fun e => absurd (congrArg Addr.block e) (by show w.heap.size + 1 + 1 ≠ w.heap.size + 1; omega))]; exact c1
    have hr1 := World.cell?_setCell_same ((w1.setCell ⟨w.heap.size + 1 + 1, 1, none⟩ (.slice a1 (len f) k1)).setCell ⟨w.heap.size + 1, 0, none⟩ (.int .i64 n)) ⟨w.heap.size + 1, 1, none⟩ (.slice a1 (len f) k1) e1
    have hr0 : (((w1.setCell ⟨w.heap.size + 1 + 1, 1, none⟩ (.slice a1 (len f) k1)).setCell ⟨w.heap.size + 1, 0, none⟩ (.int .i64 n)).setCell ⟨w.heap.size + 1, 1, none⟩ (.slice a1 (len f) k1)).cell? ⟨w.heap.size + 1, 0, none⟩ = some (.int .i64 n) := by
      rw [World.cell?_setCell_other _ _ _ _ (fun e => absurd (congrArg Addr.off e) (by simp))]; exact World.cell?_setCell_same _ _ _ e0
    refine bodyPost_ret (v := .agg #[.int .i64 n, .slice a1 (len f) k1]) (by simp [results, Try.results50, go_sem, hr0, hr1]) rfl ⟨a1, k1, rfl, VO.mono (VO.ks (VO.mono (S' := fun b => w.heap.size + 3 ≤ b) T1.out fun b _ hb => by simpa using hb) fun b hb _ => ?_) fun b _ hb => ?_, ((hx1.set ?_ _).set ?_ _).set ?_ _⟩
    · have : w.heap.size + 3 ≤ b := hb
      rw [Below.heap_setCell _ _ _ _ (by show b ≠ w.heap.size + 1; omega), Below.heap_setCell _ _ _ _ (by show b ≠ w.heap.size + 1; omega), Below.heap_setCell _ _ _ _ (by show b ≠ w.heap.size + 1 + 1; omega)]
    · have : w.heap.size + 3 ≤ b := hb
      show w.heap.size ≤ b; omega
    · show w.heap.size ≤ w.heap.size + 1 + 1; omega
    · show w.heap.size ≤ w.heap.size + 1; omega
    · show w.heap.size ≤ w.heap.size + 1; omega


end Go.Proofs.Ytomnekiiccbioaa
