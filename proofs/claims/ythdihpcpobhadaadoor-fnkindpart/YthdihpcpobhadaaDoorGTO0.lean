/- Walks: numbers copied, compared and written over; types gone through by the exact laws. Cells of a block, set one behind the other. -/
import Derived.Test.YthdihpcpobhadaaDoorGE2
namespace Go.Proofs.YthdihpcpobhadaaDoor

open Go.RowKit Go.Deep

attribute [local go_sem ↓] Go.wp_at_zero Go.wp_at_succ

/-- A block holds numbers, and nothing else. -/
def IB (w : World) (b : Nat) (xs : List Int) : Prop := ∃ cur : Array Value, w.heap[b]? = some (.cells cur 3 (0, 0)) ∧ cur.size = xs.length ∧ ∀ i, i < xs.length → cur[i]? = some (.int .i64 (xs.getD i 0))
theorem IB.pa {w : World} {b lo : Nat} {xs : List Int} (h : IB w b xs) (hl : lo ≤ b) : PA w lo xs (some ⟨b, 0, none⟩) := by
  obtain ⟨cur, h1, h2, h3⟩ := h
  refine Or.inr ⟨b, 0, rfl, hl, fun i hi => ?_⟩
  simp [World.cell?, h1, h3 i hi]
theorem IB.ex {w w' : World} {b : Nat} {xs : List Int} (h : IB w b xs) (hx : Ex w w') : IB w' b xs := by
  obtain ⟨cur, h1, h2⟩ := h
  exact ⟨cur, hx.blk h1, h2⟩
theorem IB.lt {w : World} {b : Nat} {xs : List Int} (h : IB w b xs) : b < w.heap.size := by
  obtain ⟨cur, h1, _⟩ := h
  exact lt_of_block h1

set_option maxRecDepth 100000 in
set_option maxHeartbeats 2000000 in
theorem toIntS_any (xs : List Int) (a : Option Addr) (c lo : Nat) (w : World) (hl : xs.length ≤ 1000000000) (hP : PA w lo xs a) :
    Calls Tryd.prog 50 #[.slice a xs.length c] w fun e w' => e = .returned (.slice (some ⟨w.heap.size, 0, none⟩) xs.length xs.length) ∧ IB w' w.heap.size xs ∧ Ex w w' := by
  have P : Hid (PA w lo xs a) := hP
  clear hP
  obtain ⟨i0, hi, hz0, hz1, hz2⟩ := info_parts Tryd.info3
  have hmk : ∀ w : World, (Instr.makeSlice 25 (.int .i64 (xs.length : Int)) (.int .i64 (xs.length : Int))).run Tryd.prog w = .ok (.slice (some ⟨w.heap.size, 0, none⟩) xs.length xs.length) (w.alloc (.cells (madeCells #[.int .i64 0] xs.length) 3)) := fun w => by
    have := run_make (P := Tryd.prog) w 25 3 i0 _ Tryd.underlying25 hi hz0 .i64 .i64 (xs.length : Int) (xs.length : Int) (by omega) (by omega) (by rw [hz2]; omega) (by omega)
    rw [hz1] at this
    simpa [Value.cells] using this
  clear hz0 hz1 hz2 hi
  go_enter Tryd.func50, Tryd.ntmps50
  go_wp2_with fail
  go_loopw [4] (fun i wr => ∃ (k : Nat) (cur : Array Value), k ≤ xs.length ∧ i = .int .i64 k ∧ Ex w wr ∧ wr.heap[w.heap.size]? = some (.cells cur 3 (0, 0)) ∧ cur.size = xs.length ∧ (∀ j, j < k → cur[j]? = some (.int .i64 (xs.getD j 0)))) (fun i _ => xs.length - (intOf i).toNat)
  case atStart => exact ⟨0, madeCells #[.int .i64 0] xs.length, Nat.zero_le _, rfl, Ex.new _ _, heap_alloc_new _ _, size_madeCells _ _, fun j hj => by omega⟩
  case round =>
    obtain ⟨k, cur, hk, rfl, hx, hob, hcs, hkids⟩ := hrel
    have KI : Hid _ := hkids
    have HCS : Hid (cur.size = xs.length) := hcs
    clear hkids hcs
    by_cases hlt : k < xs.length
    · obtain ⟨b, o, rfl, hlo, hbs, hkk⟩ := PA_at (PA_below P.out hx) (by omega)
      have hc1 := hkk k hlt
      clear hkk
      have cc : wr.cell? ⟨w.heap.size, k, none⟩ = some (cur[k]'(by have := HCS.out; omega)) := by simp [World.cell?, hob]
      have cf : wr.frozen? ⟨w.heap.size, k, none⟩ = false := by simp [World.frozen?, hob]
      go_wp2_with fail
      go_roundw
      case rel =>
        refine ⟨k + 1, cur.setIfInBounds k (.int .i64 (xs.getD k 0)), by omega, by go_num, hx.set (Nat.le_refl _) _, ?_, by simp [HCS.out], fun j hj => ?_⟩
        · simp [World.setCell, Array.getElem?_modify, hob, hlt]
        · by_cases hj' : j < k
          · rw [Array.getElem?_setIfInBounds_ne (by omega)]; exact KI.out j hj'
          · have e : j = k := by omega
            subst e
            rw [Array.getElem?_setIfInBounds_self]; simp [HCS.out, hlt]
      case measure => simp [intOf]; omega
    · go_wp2_with fail
      go_ret
      exact ⟨rfl, ⟨cur, hob, HCS.out, fun i hi => KI.out i (by omega)⟩, hx⟩

set_option maxRecDepth 100000 in
set_option maxHeartbeats 2000000 in
theorem eqIntS_same (xs : List Int) (a a' : Option Addr) (c c' : Nat) (w : World) (hl : xs.length ≤ 1000000000) (hP : PA w 0 xs a) (hP' : PA w 0 xs a') :
    Calls Tryd.prog 52 #[.slice a xs.length c, .slice a' xs.length c'] w fun e w' => e = .returned (.bool true) ∧ Ex w w' := by
  have P : Hid (PA w 0 xs a) := hP
  have P' : Hid (PA w 0 xs a') := hP'
  clear hP hP'
  go_enter Tryd.func52, Tryd.ntmps52
  go_wp2_with fail
  go_loopw [5] (fun i wr => ∃ (k : Nat), k ≤ xs.length ∧ i = .int .i64 k ∧ Ex w wr) (fun i _ => xs.length - (intOf i).toNat)
  case atStart => exact ⟨0, Nat.zero_le _, rfl, Ex.refl _⟩
  case round =>
    obtain ⟨k, hk, rfl, hx⟩ := hrel
    by_cases hlt : k < xs.length
    · obtain ⟨b, o, rfl, hlo, hbs, hkk⟩ := PA_at (PA_below P.out hx) (by omega)
      obtain ⟨b', o', rfl, hlo', hbs', hkk'⟩ := PA_at (PA_below P'.out hx) (by omega)
      have hc1 := hkk k hlt
      have hc2 := hkk' k hlt
      clear hkk hkk'
      have i1 : (0 : Int) ≤ (k : Int) := by omega
      have i2 : (k : Int) < (xs.length : Int) := by omega
      go_wp2_with fail
      go_quiet (fail)
      go_wp2_with fail
      go_roundw
      case rel => exact ⟨k + 1, by omega, by go_num, (hx.drewN _)⟩
      case measure => simp [intOf]; omega
    · go_wp2_with fail
      go_ret
      exact ⟨rfl, hx⟩

set_option maxRecDepth 100000 in
set_option maxHeartbeats 2000000 in
theorem markIntS_any (n c b : Nat) (k0 : Nat) (cur0 : Array Value) (w : World) (hn : n ≤ 1000000000) (hk0 : k0 ≤ 1000000000) (hb : w.heap[b]? = some (.cells cur0 3 (0, 0))) (hc : cur0.size = n) :
    Calls Tryd.prog 55 #[.slice (some ⟨b, 0, none⟩) n c, .int .i64 k0] w fun e w' => e = .returned (.int .i64 ((k0 + n : Nat) : Int)) ∧ Fr b w w' := by
  have B : Hid _ := hb
  clear hb
  go_enter Tryd.func55, Tryd.ntmps55
  go_wp2_with fail
  go_loopw [1, 5] (fun kv i wr => ∃ (k : Nat) (cur : Array Value), k ≤ n ∧ i = .int .i64 k ∧ kv = .int .i64 ((k0 + k : Nat) : Int) ∧ Fr b w wr ∧ wr.heap[b]? = some (.cells cur 3 (0, 0)) ∧ cur.size = n) (fun _ i _ => n - (intOf i).toNat)
  case atStart => exact ⟨0, cur0, Nat.zero_le _, rfl, rfl, Fr.refl _ _, B.out, hc⟩
  case round =>
    obtain ⟨k, cur, hk, rfl, rfl, hx, hob, hcs⟩ := hrel
    have HCS : Hid (cur.size = n) := hcs
    clear hcs
    by_cases hlt : k < n
    · have cc : wr.cell? ⟨b, k, none⟩ = some (cur[k]'(by have := HCS.out; omega)) := by simp [World.cell?, hob]
      have cf : wr.frozen? ⟨b, k, none⟩ = false := by simp [World.frozen?, hob]
      go_wp2_with fail
      go_roundw
      case rel =>
        refine ⟨k + 1, cur.setIfInBounds k (.int .i64 ((k0 : Int) + (k : Int))), by omega, by go_num, by go_num, hx.set (Or.inl rfl) _, ?_, by simp [HCS.out]⟩
        simp [World.setCell, Array.getElem?_modify, hob]
      case measure => simp [intOf]; omega
    · have e : k = n := by omega
      have E : Hid (k = n) := e
      clear e
      go_wp2_with fail
      go_ret
      exact ⟨by rw [E.out]; rfl, hx⟩

set_option maxRecDepth 100000 in
set_option maxHeartbeats 2000000 in
theorem markTypeS_any : ∀ (d : Nat) (f : F) (a : Option Addr) (c lo : Nat) (l : Int) (w : World), dep f < d → len f ≤ 1000000000 → Sm f → TA w lo f a →
      Calls Tryd.prog 24 #[.slice a (len f) c, .int .i64 l] w fun e w' => e = .returned (.int .i64 l) ∧ Ex w w' := by
  intro d
  induction d with
  | zero => exact fun f a c lo l w hd => by omega
  | succ d ih =>
    intro f a c lo l w hd hlen hs hT
    have T : Hid (TA w lo f a) := hT
    have I : Hid _ := ih
    have SS : Hid (Sm f) := hs
    clear hT hs ih
    go_enter Tryd.func24, Tryd.ntmps24
    go_wp2_with fail
    go_loopw [1, 5] (fun lv i wr => ∃ (k : Nat), k ≤ len f ∧ i = .int .i64 k ∧ lv = .int .i64 l ∧ Ex w wr) (fun _ i _ => len f - (intOf i).toNat)
    case atStart => exact ⟨0, Nat.zero_le _, rfl, rfl, Ex.refl _⟩
    case round =>
      obtain ⟨k, hk, rfl, rfl, hx⟩ := hrel
      by_cases hlt : k < len f
      · obtain ⟨b, o, rfl, hlo, hbs, hkk⟩ := TA_at (TA_below T.out hx) (by omega)
        obtain ⟨a1, k1, hc1, ht1⟩ := hkk k hlt
        have T1 : Hid (TA wr lo (kid f k) a1) := ht1
        clear hkk ht1
        go_wp2_with fail
        refine (I.out (kid f k) a1 k1 lo l _ (by have := dep_kid f k hlt; omega) (Sm_kid SS.out k hlt).1 (Sm_kid SS.out k hlt).2 T1.out).mono ?_
        rintro e w1 ⟨rfl, hb1⟩
        go_wp2_with fail
        go_roundw
        case rel => exact ⟨k + 1, by omega, by go_num, rfl, hx.trans hb1⟩
        case measure => simp [intOf]; omega
      · go_wp2_with fail
        go_ret
        exact ⟨rfl, hx⟩

set_option maxRecDepth 100000 in
set_option maxHeartbeats 2000000 in
theorem heldTypeS_any : ∀ (d : Nat) (f : F) (a : Option Addr) (c lo : Nat) (l : Int) (w : World), dep f < d → len f ≤ 1000000000 → Sm f → 0 ≤ l → TA w lo f a →
      Calls Tryd.prog 57 #[.slice a (len f) c, .int .i64 l] w fun e w' => e = .returned (.int .i64 l) ∧ Ex w w' := by
  intro d
  induction d with
  | zero => exact fun f a c lo l w hd => by omega
  | succ d ih =>
    intro f a c lo l w hd hlen hs hl0 hT
    have T : Hid (TA w lo f a) := hT
    have I : Hid _ := ih
    have SS : Hid (Sm f) := hs
    have dl : decide (l < 0) = false := by simp; omega
    clear hT hs ih
    go_enter Tryd.func57, Tryd.ntmps57
    go_wp2_with fail
    go_loopw [1, 5] (fun lv i wr => ∃ (k : Nat), k ≤ len f ∧ i = .int .i64 k ∧ lv = .int .i64 l ∧ Ex w wr) (fun _ i _ => len f - (intOf i).toNat)
    case atStart => exact ⟨0, Nat.zero_le _, rfl, rfl, Ex.refl _⟩
    case round =>
      obtain ⟨k, hk, rfl, rfl, hx⟩ := hrel
      by_cases hlt : k < len f
      · obtain ⟨b, o, rfl, hlo, hbs, hkk⟩ := TA_at (TA_below T.out hx) (by omega)
        obtain ⟨a1, k1, hc1, ht1⟩ := hkk k hlt
        have T1 : Hid (TA wr lo (kid f k) a1) := ht1
        clear hkk ht1
        go_wp2_with fail
        refine (I.out (kid f k) a1 k1 lo l _ (by have := dep_kid f k hlt; omega) (Sm_kid SS.out k hlt).1 (Sm_kid SS.out k hlt).2 hl0 T1.out).mono ?_
        rintro e w1 ⟨rfl, hb1⟩
        go_wp2_with fail
        go_roundw
        case rel => exact ⟨k + 1, by omega, by go_num, rfl, hx.trans hb1⟩
        case measure => simp [intOf]; omega
      · go_wp2_with fail
        go_ret
        exact ⟨rfl, hx⟩

set_option maxRecDepth 100000 in
theorem markType_any (f : F) (a : Option Addr) (c lo : Nat) (l : Int) (w : World) (hl : len f ≤ 1000000000) (hs : Sm f) (hT : TA w lo f a) :
      Calls Tryd.prog 26 #[.agg #[.slice a (len f) c], .int .i64 l] w fun e w' => e = .returned (.int .i64 l) ∧ Ex w w' := by
  go_enter Tryd.func26, Tryd.ntmps26
  go_wp2_with fail
  refine (markTypeS_any (dep f + 1) f a c lo l _ (by omega) hl hs (TA_below hT (Ex.new _ _))).mono ?_
  rintro e w1 ⟨rfl, hb1⟩
  go_wp2_with fail
  go_ret
  exact ⟨rfl, (Ex.new _ _).trans hb1⟩

set_option maxRecDepth 100000 in
theorem heldType_any (f : F) (a : Option Addr) (c lo : Nat) (l : Int) (w : World) (hl : len f ≤ 1000000000) (hs : Sm f) (hl0 : 0 ≤ l) (hT : TA w lo f a) :
      Calls Tryd.prog 27 #[.agg #[.slice a (len f) c], .int .i64 l] w fun e w' => e = .returned (.int .i64 l) ∧ Ex w w' := by
  have dl : decide (l < 0) = false := by simp; omega
  go_enter Tryd.func27, Tryd.ntmps27
  go_wp2_with fail
  refine (heldTypeS_any (dep f + 1) f a c lo l _ (by omega) hl hs hl0 (TA_below hT (Ex.new _ _))).mono ?_
  rintro e w1 ⟨rfl, hb1⟩
  go_wp2_with fail
  go_ret
  exact ⟨rfl, (Ex.new _ _).trans hb1⟩

end Go.Proofs.YthdihpcpobhadaaDoor

namespace Go.Proofs.YthdihpcpobhadaaDoor

open Go.RowKit Go.Deep

attribute [local go_sem ↓] Go.wp_at_zero Go.wp_at_succ

/-- Values set in a row of cells. -/
def setL (w : World) (b : Nat) : Nat → List Value → World
  | _, [] => w
  | o, v :: r => setL (w.setCell ⟨b, o, none⟩ v) b (o + 1) r
def setA (cur : Array Value) : Nat → List Value → Array Value
  | _, [] => cur
  | o, v :: r => setA (cur.setIfInBounds o v) (o + 1) r
theorem setA_size : ∀ (vs : List Value) (cur : Array Value) (o : Nat), (setA cur o vs).size = cur.size
  | [], _, _ => rfl
  | v :: r, cur, o => by rw [setA, setA_size r]; simp
theorem setA_out : ∀ (vs : List Value) (cur : Array Value) (o i : Nat), i < o ∨ o + vs.length ≤ i → (setA cur o vs)[i]? = cur[i]?
  | [], _, _, _, _ => rfl
  | v :: r, cur, o, i, h => by
    simp only [List.length_cons] at h
    rw [setA, setA_out r _ _ _ (by omega), Array.getElem?_setIfInBounds_ne (by omega)]
theorem setA_in : ∀ (vs : List Value) (cur : Array Value) (o i : Nat) (v : Value), vs[i]? = some v → o + i < cur.size → (setA cur o vs)[o + i]? = some v
  | [], _, _, _, _, h, _ => by simp at h
  | u :: r, cur, o, 0, v, h, hs => by
    simp only [List.getElem?_cons_zero, Option.some.injEq] at h
    subst h
    rw [setA, setA_out r _ _ _ (by omega), Nat.add_zero, Array.getElem?_setIfInBounds_self, if_pos (by omega)]
  | u :: r, cur, o, i + 1, v, h, hs => by
    rw [setA, show o + (i + 1) = o + 1 + i by omega]
    exact setA_in r _ _ _ _ (by simpa using h) (by simp; omega)
theorem setA_all (vs : List Value) (cur : Array Value) (h : cur.size = vs.length) : setA cur 0 vs = vs.toArray := by
  refine Array.ext' (List.ext_getElem? fun i => ?_)
  rw [Array.getElem?_toList]
  rcases Nat.lt_or_ge i vs.length with hi | hi
  · have := setA_in vs cur 0 i vs[i] (by simp [hi]) (by omega)
    rw [Nat.zero_add] at this
    rw [this]; simp [hi]
  · rw [setA_out vs cur 0 i (Or.inr (by omega))]
    simp [hi, h]
theorem setL_size : ∀ (vs : List Value) (w : World) (b o : Nat), (setL w b o vs).heap.size = w.heap.size
  | [], _, _, _ => rfl
  | v :: r, w, b, o => by rw [setL, setL_size r, World.size_setCell]
theorem setL_blk : ∀ (vs : List Value) {w : World} {b o : Nat} {cur : Array Value} {t : TypeId}, w.heap[b]? = some (.cells cur t (0, 0)) → (setL w b o vs).heap[b]? = some (.cells (setA cur o vs) t (0, 0))
  | [], _, _, _, _, _, h => h
  | v :: r, w, b, o, cur, t, h => by
    rw [setL, setA]
    exact setL_blk r (by simp [World.setCell, Array.getElem?_modify, h])
theorem setL_other : ∀ (vs : List Value) {w : World} {b o n : Nat}, n ≠ b → (setL w b o vs).heap[n]? = w.heap[n]?
  | [], _, _, _, _, _ => rfl
  | v :: r, w, b, o, n, h => by rw [setL, setL_other r h, Below.heap_setCell _ _ _ _ (by simpa using h)]
theorem setL_ex : ∀ (vs : List Value) {a w : World} {b o : Nat}, Ex a w → a.heap.size ≤ b → Ex a (setL w b o vs)
  | [], _, _, _, _, h, _ => h
  | v :: r, a, w, b, o, h, hb => by rw [setL]; exact setL_ex r (h.set hb v) hb
theorem setL_kp : ∀ (vs : List Value) {lo : Nat} {a w : World} {b o : Nat}, Kp lo a w → (b < lo ∨ a.heap.size ≤ b) → Kp lo a (setL w b o vs)
  | [], _, _, _, _, _, h, _ => h
  | v :: r, lo, a, w, b, o, h, hb => by rw [setL]; exact setL_kp r (h.set hb v) hb
theorem blk_set {w : World} {n i : Nat} {vs : Array Value} {t : TypeId} (h : w.heap[n]? = some (.cells vs t (0, 0))) (v : Value) : (w.setCell ⟨n, i, none⟩ v).heap[n]? = some (.cells (vs.setIfInBounds i v) t (0, 0)) := by
  simp [World.setCell, Array.getElem?_modify, h]
theorem blk_off {w : World} {n m i : Nat} {o : Obj} (h : w.heap[n]? = some o) (hn : n ≠ m) (v : Value) : (w.setCell ⟨m, i, none⟩ v).heap[n]? = some o := by
  rw [Below.heap_setCell _ _ _ _ (by simpa using hn)]; exact h
theorem blk_cell {w : World} {n : Nat} {vs : Array Value} {t : TypeId} (h : w.heap[n]? = some (.cells vs t (0, 0))) (i : Nat) : w.cell? ⟨n, i, none⟩ = vs[i]? := by
  simp [World.cell?, h]
theorem blk_free {w : World} {n : Nat} {vs : Array Value} {t : TypeId} (h : w.heap[n]? = some (.cells vs t (0, 0))) (i : Nat) : w.frozen? ⟨n, i, none⟩ = false := by
  simp [World.frozen?, h]

end Go.Proofs.YthdihpcpobhadaaDoor
