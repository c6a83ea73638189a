/- Walks: a type of the laws turned into one of the program. -/
import Derived.Test.YthdihpcpobhadaaDoorE1

import Derived.Test.YthdihpcpobhadaaDoorD4

namespace Go.Proofs.YthdihpcpobhadaaDoor

open Go.RowKit Go.Deep

set_option maxRecDepth 100000 in
set_option maxHeartbeats 2000000 in
theorem toType_both : ∀ (d : Nat), (∀ (f : F) (a : Option Addr) (c lo : Nat) (w : World), dep f < d → len f ≤ 1000000000 → Sm f → TA w lo f a →
      Calls Tryd.prog 17 #[.slice a (len f) c] w fun e w' => ∃ a' c', e = .returned (.slice a' (len f) c') ∧ TA w' w.heap.size f a' ∧ Ex w w') ∧
    (∀ (f : F) (a : Option Addr) (c lo : Nat) (w : World), dep f < d → len f ≤ 1000000000 → Sm f → TA w lo f a →
      Calls Tryd.prog 49 #[.agg #[.slice a (len f) c]] w fun e w' => ∃ a' c', e = .returned (.agg #[.slice a' (len f) c']) ∧ TA w' w.heap.size f a' ∧ Ex w w') := by
  intro d
  induction d with
  | zero => exact ⟨fun f a c lo w hd => by omega, fun f a c lo w hd => by omega⟩
  | succ d ih =>
    have hS : ∀ (f : F) (a : Option Addr) (c lo : Nat) (w : World), dep f < d + 1 → len f ≤ 1000000000 → Sm f → TA w lo f a →
      Calls Tryd.prog 17 #[.slice a (len f) c] w fun e w' => ∃ a' c', e = .returned (.slice a' (len f) c') ∧ TA w' w.heap.size f a' ∧ Ex w w' := by
      intro f a c lo w hd hl hs hT
      have T : Hid (TA w lo f a) := hT
      have I : Hid _ := ih.2
      have SS : Hid (Sm f) := hs
      clear hT ih hs
      obtain ⟨i0, hi, hz0, hz1, hz2⟩ := info_parts Tryd.info32
      have hmk : ∀ w : World, (Instr.makeSlice 24 (.int .i64 (len f : Int)) (.int .i64 (len f : Int))).run Tryd.prog w = .ok (.slice (some ⟨w.heap.size, 0, none⟩) (len f) (len f)) (w.alloc (.cells (madeCells #[.slice none 0 0] (len f)) 32)) := fun w => by
        have := run_make (P := Tryd.prog) w 24 32 i0 _ Tryd.underlying24 hi hz0 .i64 .i64 (len f : Int) (len f : Int) (by omega) (by omega) (by rw [hz2]; omega) (by omega)
        rw [hz1] at this
        simpa [Value.cells] using this
      clear hz0 hz1 hz2 hi
      go_enter Tryd.func17, Tryd.ntmps17
      go_wp2_with fail
      go_loopw [4] (fun i wr => ∃ (k : Nat) (cur : Array Value), k ≤ len f ∧ i = .int .i64 k ∧ Ex w wr ∧ wr.heap[w.heap.size]? = some (.cells cur 32 (0, 0)) ∧ cur.size = len f ∧ (∀ j, j < k → ∃ a' c', cur[j]? = some (.slice a' (len (kid f j)) c') ∧ SA wr (fun b => w.heap.size < b) (kid f j) a')) (fun i _ => len f - (intOf i).toNat)
      case atStart => exact ⟨0, madeCells #[.slice none 0 0] (len f), Nat.zero_le _, rfl, Ex.new _ _, heap_alloc_new _ _, size_madeCells _ _, fun j hj => by omega⟩
      case round =>
        obtain ⟨k, cur, hk, rfl, hx, hob, hcs, hkids⟩ := hrel
        have KI : Hid _ := hkids
        have HCS : Hid (cur.size = len f) := hcs
        clear hkids hcs
        by_cases hlt : k < len f
        · obtain ⟨b, o, rfl, hlo, hbs, hkk⟩ := TA_at (TA_below T.out hx) (by omega)
          obtain ⟨a1, k1, hc1, ht1⟩ := hkk k hlt
          have T1 : Hid (TA wr lo (kid f k) a1) := ht1
          clear hkk ht1
          go_wp2_with fail
          refine (I.out (kid f k) a1 k1 lo _ (by have := dep_kid f k hlt; omega) (Sm_kid SS.out k hlt).1 (Sm_kid SS.out k hlt).2 T1.out).mono ?_
          rintro e w1 ⟨a2, k2, rfl, ht2, hb1⟩
          have hob1 := hb1.blk hob
          have cc : w1.cell? ⟨w.heap.size, k, none⟩ = some (cur[k]'(by have := HCS.out; omega)) := by simp [World.cell?, hob1]
          have cf : w1.frozen? ⟨w.heap.size, k, none⟩ = false := by simp [World.frozen?, hob1]
          have T2 : Hid (TA w1 wr.heap.size (kid f k) a2) := ht2
          have zr : w.heap.size < wr.heap.size := lt_of_block hob
          clear ht2
          go_wp2_with fail
          go_roundw
          case rel =>
            refine ⟨k + 1, cur.setIfInBounds k (.slice a2 (len (kid f k)) k2), by omega, by go_num, (hx.trans hb1).set (Nat.le_refl _) _, ?_, by simp [HCS.out], fun j hj => ?_⟩
            · simp [World.setCell, Array.getElem?_modify, hob1]
            · have hks : Ks (fun b => w.heap.size < b) w1 (w1.setCell ⟨w.heap.size, k, none⟩ (.slice a2 (len (kid f k)) k2)) := fun b hb _ => Below.heap_setCell _ _ _ _ (by show b ≠ w.heap.size; omega)
              by_cases hj' : j < k
              · obtain ⟨a3, k3, h3, h4⟩ := KI.out j hj'
                exact ⟨a3, k3, by rw [Array.getElem?_setIfInBounds_ne (by omega)]; exact h3, SA_ks (SA_ks h4 fun b _ hlt => hb1.block b hlt) hks⟩
              · have e : j = k := by omega
                subst e
                exact ⟨a2, k2, by rw [Array.getElem?_setIfInBounds_self]; simp [HCS.out, hlt], SA_ks (SA_mono T2.out fun b _ hb => by omega) hks⟩
          case measure => simp [intOf]; omega
        · go_wp2_with fail
          go_ret
          refine ⟨_, _, rfl, ?_, hx⟩
          refine SA_mk (Nat.le_refl _) fun i hi => ?_
          obtain ⟨a3, k3, h3, h4⟩ := KI.out i (by omega)
          exact ⟨a3, k3, by simp [World.cell?, hob, h3], SA_mono h4 fun b _ hb => Nat.le_of_lt hb⟩
    refine ⟨hS, ?_⟩
    intro f a c lo w hd hl hs hT
    have HS : Hid _ := hS
    clear hS ih
    go_enter Tryd.func49, Tryd.ntmps49
    go_wp2_with fail
    refine (HS.out f a c lo _ hd hl hs (TA_below hT (((Ex.new _ _).alloc _).alloc _))).mono ?_
    rintro e w1 ⟨a1, k1, rfl, ht1, hb1⟩
    have hx1 : Ex w w1 := (((Ex.new _ _).alloc _).alloc _).trans hb1
    have b1 : w1.heap[w.heap.size + 1]? = some (.cells #[.slice none 0 0] 32 (0, 0)) := hb1.blk ((Ex.new _ _).blk (heap_alloc_at _ _ (by simp)))
    have b2 : w1.heap[w.heap.size + 2]? = some (.cells #[.slice none 0 0] 32 (0, 0)) := hb1.blk (heap_alloc_at _ _ (by simp))
    have c1 := cell_of_one b1
    have c2 := free_of_one b1
    have c3 := cell_of_one b2
    have c4 := free_of_one b2
    have T1 : Hid _ := ht1
    clear ht1
    go_wp2_with fail
    have c6 : (w1.setCell ⟨w.heap.size + 1 + 1, 0, none⟩ (.slice a1 (len f) k1)).cell? ⟨w.heap.size + 1, 0, none⟩ = some (.slice none 0 0) := by
      rw [World.cell?_setCell_other _ _ _ _ (fun e => absurd (congrArg Addr.block e) (by show w.heap.size + 1 + 1 ≠ w.heap.size + 1; omega))]; exact c1
    have hres := World.cell?_setCell_same (w1.setCell ⟨w.heap.size + 1 + 1, 0, none⟩ (.slice a1 (len f) k1)) ⟨w.heap.size + 1, 0, none⟩ (.slice a1 (len f) k1) c6
    refine bodyPost_ret (v := .agg #[.slice a1 (len f) k1]) (by simp [results, Tryd.results49, go_sem, hres]) rfl ⟨a1, k1, rfl, TA_lo (TA_kp T1.out (((Kp.refl _ _).set (Or.inl ?_) _).set (Or.inl ?_) _)) ?_, (hx1.set ?_ _).set ?_ _⟩
    · simp
    · simp
    · simp; omega
    · show w.heap.size ≤ w.heap.size + 1 + 1; omega
    · show w.heap.size ≤ w.heap.size + 1; omega

end Go.Proofs.YthdihpcpobhadaaDoor
