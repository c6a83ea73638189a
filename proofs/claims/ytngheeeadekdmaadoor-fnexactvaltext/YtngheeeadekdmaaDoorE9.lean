/- Walks: a value of the laws turned into one of the program. -/
import Derived.Test.YtngheeeadekdmaaDoorE4

import Derived.Test.YtngheeeadekdmaaDoorD6

namespace Go.Proofs.YtngheeeadekdmaaDoor

open Go.RowKit Go.Deep


set_option maxRecDepth 100000 in
set_option maxHeartbeats 2000000 in
theorem toVal_both : ∀ (d : Nat), (∀ (f : F) (a : Option Addr) (c lo : Nat) (w : World), dep f < d → len f ≤ 1000000000 → Sm f → VA w lo f a →
      Calls Tryd.prog 21 #[.slice a (len f) c] w fun e w' => ∃ a' c', e = .returned (.slice a' (len f) c') ∧ VA w' w.heap.size f a' ∧ Ex w w') ∧
    (∀ (n : Int) (f : F) (a : Option Addr) (c lo : Nat) (w : World), dep f < d → len f ≤ 1000000000 → Sm f → VA w lo f a →
      Calls Tryd.prog 10 #[.agg #[.int .i64 n, .slice a (len f) c]] w fun e w' => ∃ a' c', e = .returned (.agg #[.int .i64 n, .slice a' (len f) c']) ∧ VA w' w.heap.size f a' ∧ Ex w w') := by
  intro d
  induction d with
  | zero => exact ⟨fun f a c lo w hd => by omega, fun n f a c lo w hd => by omega⟩
  | succ d ih =>
    have hS : ∀ (f : F) (a : Option Addr) (c lo : Nat) (w : World), dep f < d + 1 → len f ≤ 1000000000 → Sm f → VA w lo f a →
      Calls Tryd.prog 21 #[.slice a (len f) c] w fun e w' => ∃ a' c', e = .returned (.slice a' (len f) c') ∧ VA w' w.heap.size f a' ∧ Ex w w' := by
      intro f a c lo w hd hl hs hT
      have T : Hid (VA w lo f a) := hT
      have I : Hid _ := ih.2
      have SS : Hid (Sm f) := hs
      clear hT ih hs
      obtain ⟨i0, hi, hz0, hz1, hz2⟩ := info_parts Tryd.info25
      have hmk : ∀ w : World, (Instr.makeSlice 23 (.int .i64 (len f : Int)) (.int .i64 (len f : Int))).run Tryd.prog w = .ok (.slice (some ⟨w.heap.size, 0, none⟩) (len f) (len f)) (w.alloc (.cells (madeCells #[.int .i64 0, .slice none 0 0] (len f * 2)) 25)) := fun w => by
        have := run_make (P := Tryd.prog) w 23 25 i0 _ Tryd.underlying23 hi hz0 .i64 .i64 (len f : Int) (len f : Int) (by omega) (by omega) (by rw [hz2]; omega) (by omega)
        rw [hz1] at this
        simpa [Value.cells] using this
      clear hz0 hz1 hz2 hi
      go_enter Tryd.func21, Tryd.ntmps21
      go_wp2_with fail
      go_loopw [4] (fun i wr => ∃ (k : Nat) (cur : Array Value), k ≤ len f ∧ i = .int .i64 k ∧ Ex w wr ∧ wr.heap[w.heap.size]? = some (.cells cur 25 (0, 0)) ∧ cur.size = len f * 2 ∧ (∀ j, j < k → cur[j * 2]? = some (.int .i64 (num f j)) ∧ ∃ a' c', cur[j * 2 + 1]? = some (.slice a' (len (kid f j)) c') ∧ VS wr (fun b => w.heap.size < b) (kid f j) a')) (fun i _ => len f - (intOf i).toNat)
      case atStart => exact ⟨0, madeCells #[.int .i64 0, .slice none 0 0] (len f * 2), Nat.zero_le _, rfl, Ex.new _ _, heap_alloc_new _ _, size_madeCells _ _, fun j hj => by omega⟩
      case round =>
        obtain ⟨k, cur, hk, rfl, hx, hob, hcs, hkids⟩ := hrel
        have KI : Hid _ := hkids
        have HCS : Hid (cur.size = len f * 2) := hcs
        clear hkids hcs
        by_cases hlt : k < len f
        · obtain ⟨b, o, rfl, hlo, hbs, hkk⟩ := VA_at (VA_below T.out hx) (by omega)
          obtain ⟨hn1, a1, k1, hc1, ht1⟩ := hkk k hlt
          have T1 : Hid (VA wr lo (kid f k) a1) := ht1
          clear hkk ht1
          go_wp2_with fail
          refine (I.out (num f k) (kid f k) a1 k1 lo _ (by have := dep_kid f k hlt; omega) (Sm_kid SS.out k hlt).1 (Sm_kid SS.out k hlt).2 T1.out).mono ?_
          rintro e w1 ⟨a2, k2, rfl, ht2, hb1⟩
          have hob1 := hb1.blk hob
          have cc : w1.cell? ⟨w.heap.size, k * 2, none⟩ = some (cur[k * 2]'(by have := HCS.out; omega)) := by simp [World.cell?, hob1]
          have cd : w1.cell? ⟨w.heap.size, k * 2 + 1, none⟩ = some (cur[k * 2 + 1]'(by have := HCS.out; omega)) := by simp [World.cell?, hob1]
          have cf : w1.frozen? ⟨w.heap.size, k * 2, none⟩ = false := by simp [World.frozen?, hob1]
          have cg : w1.frozen? ⟨w.heap.size, k * 2 + 1, none⟩ = false := by simp [World.frozen?, hob1]
          have T2 : Hid (VA w1 wr.heap.size (kid f k) a2) := ht2
          have zr : w.heap.size < wr.heap.size := lt_of_block hob
          clear ht2
          go_wp2_with fail
          go_roundw
          case rel =>
            refine ⟨k + 1, (cur.setIfInBounds (k * 2) (.int .i64 (num f k))).setIfInBounds (k * 2 + 1) (.slice a2 (len (kid f k)) k2), by omega, by go_num, ((hx.trans hb1).set (Nat.le_refl _) _).set (Nat.le_refl _) _, ?_, by simp [HCS.out], fun j hj => ?_⟩
            · simp [World.setCell, Array.getElem?_modify, hob1]
            · have hks : Ks (fun b => w.heap.size < b) w1 ((w1.setCell ⟨w.heap.size, k * 2, none⟩ (.int .i64 (num f k))).setCell ⟨w.heap.size, k * 2 + 1, none⟩ (.slice a2 (len (kid f k)) k2)) := fun b hb _ => by
                rw [Below.heap_setCell _ _ _ _ (by show b ≠ w.heap.size; omega), Below.heap_setCell _ _ _ _ (by show b ≠ w.heap.size; omega)]
              by_cases hj' : j < k
              · obtain ⟨h2, a3, k3, h3, h4⟩ := KI.out j hj'
                refine ⟨?_, a3, k3, ?_, VS_ks (VS_ks h4 fun b _ hlt => hb1.block b hlt) hks⟩
                · rw [Array.getElem?_setIfInBounds_ne (by omega), Array.getElem?_setIfInBounds_ne (by omega)]; exact h2
                · rw [Array.getElem?_setIfInBounds_ne (by omega), Array.getElem?_setIfInBounds_ne (by omega)]; exact h3
              · have e : j = k := by omega
                subst e
                have hc := HCS.out
                refine ⟨?_, a2, k2, ?_, VS_ks (VS_mono T2.out fun b _ hb => by have : wr.heap.size ≤ b := hb; omega) hks⟩
                · rw [Array.getElem?_setIfInBounds_ne (by omega), Array.getElem?_setIfInBounds_self, if_pos (by omega)]
                · rw [Array.getElem?_setIfInBounds_self, if_pos (by rw [Array.size_setIfInBounds]; omega)]
          case measure => simp [intOf]; omega
        · go_wp2_with fail
          go_ret
          refine ⟨_, _, rfl, ?_, hx⟩
          refine VS_mk (Nat.le_refl _) fun i hi => ?_
          obtain ⟨h2, a3, k3, h3, h4⟩ := KI.out i (by omega)
          exact ⟨by simp [World.cell?, hob, h2], a3, k3, by simp [World.cell?, hob, h3], VS_mono h4 fun b _ hb => Nat.le_of_lt hb⟩
    refine ⟨hS, ?_⟩
    intro n f a c lo w hd hl hs hT
    have HS : Hid _ := hS
    clear hS ih
    go_enter Tryd.func10, Tryd.ntmps10
    go_wp2_with fail
    refine (HS.out f a c lo _ hd hl hs (VA_below hT (((Ex.new _ _).alloc _).alloc _))).mono ?_
    rintro e w1 ⟨a1, k1, rfl, ht1, hb1⟩
    have hx1 : Ex w w1 := (((Ex.new _ _).alloc _).alloc _).trans hb1
    have b1 : w1.heap[w.heap.size + 1]? = some (.cells #[.int .i64 0, .slice none 0 0] 25 (0, 0)) := hb1.blk ((Ex.new _ _).blk (heap_alloc_at _ _ (by simp)))
    have b2 : w1.heap[w.heap.size + 1 + 1]? = some (.cells #[.int .i64 n, .slice none 0 0] 25 (0, 0)) := hb1.blk (heap_alloc_at _ _ (by simp))
    have c0 : w1.cell? ⟨w.heap.size + 1, 0, none⟩ = some (.int .i64 0) := by simp [World.cell?, b1]
    have c1 : w1.cell? ⟨w.heap.size + 1, 1, none⟩ = some (.slice none 0 0) := by simp [World.cell?, b1]
    have f0 : w1.frozen? ⟨w.heap.size + 1, 0, none⟩ = false := by simp [World.frozen?, b1]
    have f1 : w1.frozen? ⟨w.heap.size + 1, 1, none⟩ = false := by simp [World.frozen?, b1]
    have d0 : w1.cell? ⟨w.heap.size + 1 + 1, 0, none⟩ = some (.int .i64 n) := by simp [World.cell?, b2]
    have d1 : w1.cell? ⟨w.heap.size + 1 + 1, 1, none⟩ = some (.slice none 0 0) := by simp [World.cell?, b2]
    have g1 : w1.frozen? ⟨w.heap.size + 1 + 1, 1, none⟩ = false := by simp [World.frozen?, b2]
    have T1 : Hid _ := ht1
    clear ht1
    go_wp2_with fail
    have e0 : (w1.setCell ⟨w.heap.size + 1 + 1, 1, none⟩ (.slice a1 (len f) k1)).cell? ⟨w.heap.size + 1, 0, none⟩ = some (.int .i64 0) := by
      rw [World.cell?_setCell_other _ _ _ _ (fun e => absurd (congrArg Addr.block e) (by show w.heap.size + 1 + 1 ≠ w.heap.size + 1; omega))]; exact c0
    have e1 : ((w1.setCell ⟨w.heap.size + 1 + 1, 1, none⟩ (.slice a1 (len f) k1)).setCell ⟨w.heap.size + 1, 0, none⟩ (.int .i64 n)).cell? ⟨w.heap.size + 1, 1, none⟩ = some (.slice none 0 0) := by
      rw [World.cell?_setCell_other _ _ _ _ (fun e => absurd (congrArg Addr.off e) (by simp)), World.cell?_setCell_other _ _ _ _ (fun e => absurd (congrArg Addr.block e) (by show w.heap.size + 1 + 1 ≠ w.heap.size + 1; omega))]; exact c1
    have hr1 := World.cell?_setCell_same ((w1.setCell ⟨w.heap.size + 1 + 1, 1, none⟩ (.slice a1 (len f) k1)).setCell ⟨w.heap.size + 1, 0, none⟩ (.int .i64 n)) ⟨w.heap.size + 1, 1, none⟩ (.slice a1 (len f) k1) e1
    have hr0 : (((w1.setCell ⟨w.heap.size + 1 + 1, 1, none⟩ (.slice a1 (len f) k1)).setCell ⟨w.heap.size + 1, 0, none⟩ (.int .i64 n)).setCell ⟨w.heap.size + 1, 1, none⟩ (.slice a1 (len f) k1)).cell? ⟨w.heap.size + 1, 0, none⟩ = some (.int .i64 n) := by
      rw [World.cell?_setCell_other _ _ _ _ (fun e => absurd (congrArg Addr.off e) (by simp))]; exact World.cell?_setCell_same _ _ _ e0
    refine bodyPost_ret (v := .agg #[.int .i64 n, .slice a1 (len f) k1]) (by simp [results, Tryd.results10, go_sem, hr0, hr1]) rfl ⟨a1, k1, rfl, VA_lo (VA_kp T1.out ((((Kp.refl _ _).set (Or.inl ?_) _).set (Or.inl ?_) _).set (Or.inl ?_) _)) ?_, ((hx1.set ?_ _).set ?_ _).set ?_ _⟩
    · simp
    · simp
    · simp
    · simp; omega
    · show w.heap.size ≤ w.heap.size + 1 + 1; omega
    · show w.heap.size ≤ w.heap.size + 1; omega
    · show w.heap.size ≤ w.heap.size + 1; omega

end Go.Proofs.YtngheeeadekdmaaDoor
