/- Walks: the specification's texts of terms behind a word. Walks: what the exact laws do with types. Walks: a type of the laws turned into one of the program. Walks: numbers copied, compared and written over; types gone through by the exact laws. Cells of a block, set one behind the other. Walks: a text that is built, and all beside it as it was. Walks: the program's texts of terms and names. Walks: the program's texts behind a word. -/
import Derived.Test.YtldbmlojgakieaaGreatDoorGTX3
import Derived.Test.YtldbmlojgakieaaGreatDoorGTM2
import Derived.Test.YtldbmlojgakieaaGreatDoorGT2
import Derived.Test.YtldbmlojgakieaaGreatDoorBD5
namespace Go.Proofs.YtldbmlojgakieaaGreatDoor

open Go.RowKit Go.Deep

attribute [local go_sem ↓] Go.wp_at_zero Go.wp_at_succ

theorem tWk_le {f : TM} {i : Nat} (h : i < tlen f) : tWk f i ≤ tW f := by
  have := sumN_upto (tWk f) (show i + 1 ≤ tlen f by omega)
  rw [tW_sum]
  simp only [sumN] at this
  omega
theorem kidX_size {d : Nat} {f : TM} (h : TOk d f) (hz : tW f ≤ 1048576) {i : Nat} (hi : i < tlen f) : (kidX d f i).size ≤ 10000000 := by
  have h1 := termX_size (h i hi)
  have h2 := tWk_le hi
  have e2 : tWk f i = (tname f i).size + (tpath f i).length + tW (tkid f i) := rfl
  unfold kidX
  omega
theorem tW_kid {f : TM} {i : Nat} (h : i < tlen f) : tW (tkid f i) ≤ tW f := by
  have := tWk_le h
  have e2 : tWk f i = (tname f i).size + (tpath f i).length + tW (tkid f i) := rfl
  omega

theorem l12Say_any : ∀ (d : Nat) (k n : Int) (s : ByteArray) (p : List Int) (pa : Option Addr) (pc : Nat) (f : TM) (a : Option Addr) (c : Nat) (w : World), TO d k n s p f → tW f ≤ 1048576 → PA w 0 p pa → MA w 0 f a →
    Calls Tryz.prog 83 #[.agg #[.int .i64 k, .int .i64 n, .string s, .slice pa p.length pc, .slice a (tlen f) c]] w fun e w' => e = .returned (.string (termX d k n s p f)) ∧ Ex w w' := by
  intro d
  induction d with
  | zero => intro k n s p pa pc f a c w h; exact h.elim
  | succ d ih =>
    intro k n s p pa pc f a c w h hz hP hM
    have hK : ∀ j, j < tlen f → ∀ (pa' : Option Addr) (pc' : Nat) (a' : Option Addr) (c' : Nat) (w' : World), Ex w w' → PA w' 0 (tpath f j) pa' → MA w' 0 (tkid f j) a' → Calls Tryz.prog 83 #[.agg #[.int .i64 (tkind f j), .int .i64 (tnum f j), .string (tname f j), .slice pa' (tpath f j).length pc', .slice a' (tlen (tkid f j)) c']] w' fun e w'' => e = .returned (.string (kidX d f j)) ∧ Ex w' w'' := fun j hj pa' pc' a' c' w' _ q1 q2 =>
      ih _ _ _ _ pa' pc' _ a' c' w' (h.2 j hj) (Nat.le_trans (tW_kid hj) hz) q1 q2
    rcases tok_kinds h.1 with ⟨rfl, h0, h1, hl⟩ | ⟨rfl, hl⟩ | ⟨hk, hl⟩ | ⟨rfl, hp, hp4, hl⟩ | ⟨rfl, hp, hp4, hl⟩
    · exact say_leaf 1 n s p pa pc f a c d w (Or.inl ⟨rfl, h0, h1⟩) hl
    · exact say_leaf 2 n s p pa pc f a c d w (Or.inr rfl) hl
    · obtain ⟨q, rfl, h3, h6⟩ : ∃ q : Nat, k = (q : Int) ∧ 3 ≤ q ∧ q ≤ 6 := ⟨k.toNat, by omega, by omega, by omega⟩
      exact say_op q h3 h6 n s p pa pc f a c d w hl (kidX_size h.2 hz (by omega)) (kidX_size h.2 hz (by omega)) hM hK
    · exact say_at n s p pa pc f a c d w hp hp4 hl (kidX_size h.2 hz (by omega)) hP hM hK
    · exact say_put n s p pa pc f a c d w hp hp4 hl (kidX_size h.2 hz (by omega)) (kidX_size h.2 hz (by omega)) hP hM hK

set_option maxRecDepth 100000 in
set_option maxHeartbeats 2000000 in
theorem l12Rows_any (f : TM) (a : Option Addr) (c : Nat) (w : World) (h : TOk 8 f) (hz : tW f ≤ 1048576) (hM : MA w 0 f a) :
    Calls Tryz.prog 64 #[.slice a (tlen f) c] w fun e w' => e = .returned (.string (rowsX f)) ∧ Ex w w' := by
  have M : Hid (∀ w', Ex w w' → MA w' 0 f a) := fun _ h => MA_below hM h
  have SZ : Hid (∀ j, j < tlen f → (upX (rowX f) j).size ≤ 10000000 ∧ (kidX 8 f j).size ≤ 10000000) := fun j hj => by
    have h1 := upX_upto (rowX f) (show j ≤ tlen f by omega)
    have h2 := rowsX_size h
    unfold rowsX at h2
    exact ⟨by omega, kidX_size h hz hj⟩
  have LS : Hid (∀ j, j < tlen f → ∀ (pa' : Option Addr) (pc' : Nat) (a' : Option Addr) (c' : Nat) (w' : World), PA w' 0 (tpath f j) pa' → MA w' 0 (tkid f j) a' → Calls Tryz.prog 83 #[.agg #[.int .i64 (tkind f j), .int .i64 (tnum f j), .string (tname f j), .slice pa' (tpath f j).length pc', .slice a' (tlen (tkid f j)) c']] w' fun e w'' => e = .returned (.string (kidX 8 f j)) ∧ Ex w' w'') := fun j hj pa' pc' a' c' w' q1 q2 =>
    l12Say_any 8 _ _ _ _ pa' pc' _ a' c' w' (h j hj) (Nat.le_trans (tW_kid hj) hz) q1 q2
  have hln : tlen f ≤ 1048576 := by rw [tW_sum] at hz; omega
  have PX : Hid (rowsX f = upX (rowX f) (tlen f)) := rfl
  generalize rowsX f = px at PX ⊢
  clear h hz hM
  go_enter Tryz.func64, Tryz.ntmps64
  go_wp2_with fail
  go_loopw [3, 4] (fun ov i wr => ∃ (j : Nat), j ≤ tlen f ∧ i = .int .i64 j ∧ ov = .string (upX (rowX f) j) ∧ Ex w wr) (fun _ i _ => tlen f - (intOf i).toNat)
  case atStart => exact ⟨0, by omega, rfl, rfl, Ex.refl _⟩
  case round =>
    obtain ⟨j, hj, rfl, rfl, hx⟩ := hrel
    have X : Hid (Ex w wr) := hx
    clear hx
    by_cases hlt : j < tlen f
    · obtain ⟨b, o, rfl, _, hbs, hk⟩ := MA_at (M.out wr X.out) (by omega)
      obtain ⟨e0, e1, e2, ⟨pa', pc', e3, hp'⟩, a', c', e4, hm'⟩ := hk j hlt
      have HI : Hid _ := LS.out j hlt pa' pc' a' c' wr (PS_pa.1 hp'.1) hm'
      obtain ⟨st, sd⟩ := SZ.out j hlt
      have HU : Hid (upX (rowX f) (j + 1) = upX (rowX f) j ++ ((if j = 0 then ⟨#[]⟩ else ⟨#[59]⟩) ++ (⟨#[32]⟩ ++ kidX 8 f j))) := rfl
      generalize upX (rowX f) j = t at st HU ⊢
      generalize kidX 8 f j = dd at sd HI HU
      have n1 : ¬ 9223372036854775807 < t.size + 1 := by omega
      have n2 : ¬ 9223372036854775807 < t.size + 1 + dd.size := by omega
      have n3 : ¬ 9223372036854775807 < t.size + 1 + 1 := by omega
      have n4 : ¬ 9223372036854775807 < t.size + 1 + 1 + dd.size := by omega
      clear hk hp' hm' st sd
      by_cases hj0 : j = 0
      · have HV : Hid (t ++ ⟨#[32]⟩ ++ dd = upX (rowX f) (j + 1)) := by
          show _ = _
          rw [HU.out, if_pos hj0, nil_cat, cat3]
        have g0 : decide ((0 : Int) < (j : Int)) = false := decide_eq_false (by omega)
        have g1 : decide (0 < j) = false := decide_eq_false (by omega)
        have g2 : ¬ 0 < j := by omega
        clear hj0 HU
        go_wp2_with fail
        refine Calls.mono HI.out ?_
        rintro e w1 ⟨rfl, hb1⟩
        have X1 : Hid (Ex w w1) := X.out.trans hb1
        clear hb1
        go_wp2_with fail
        go_roundw
        case rel => exact ⟨j + 1, by omega, by go_num, by rw [HV.out], X1.out⟩
        case measure => simp [intOf]; omega
      · have HV : Hid (t ++ ⟨#[59]⟩ ++ ⟨#[32]⟩ ++ dd = upX (rowX f) (j + 1)) := by
          show _ = _
          rw [HU.out, if_neg hj0, cat3, cat3]
        have g0 : decide ((0 : Int) < (j : Int)) = true := decide_eq_true (by omega)
        have g1 : decide (0 < j) = true := decide_eq_true (by omega)
        have g2 : 0 < j := by omega
        clear hj0 HU
        go_wp2_with fail
        refine Calls.mono HI.out ?_
        rintro e w1 ⟨rfl, hb1⟩
        have X1 : Hid (Ex w w1) := X.out.trans hb1
        clear hb1
        go_wp2_with fail
        go_roundw
        case rel => exact ⟨j + 1, by omega, by go_num, by rw [HV.out], X1.out⟩
        case measure => simp [intOf]; omega
    · have hje : j = tlen f := by omega
      have HR : Hid (px = upX (rowX f) j) := by show _ = _; rw [hje]; exact PX.out
      clear hje
      go_wp2_with fail
      go_ret
      exact ⟨ret_s HR.out.symm, X.out⟩

end Go.Proofs.YtldbmlojgakieaaGreatDoor

namespace Go.Proofs.YtldbmlojgakieaaGreatDoor

open Go.RowKit Go.Deep

attribute [local go_sem ↓] Go.wp_at_zero Go.wp_at_succ

/-- All lists are of a length that is one. -/
def Lm : F → Prop
  | .nil => True
  | .node _ _ _ k r => len k ≤ 9223372036854775807 ∧ Lm k ∧ Lm r
theorem Lm_kid : ∀ {f : F}, Lm f → ∀ i, i < len f → len (kid f i) ≤ 9223372036854775807 ∧ Lm (kid f i)
  | .nil, _, i, h => by simp [len] at h
  | .node _ _ _ k r, hs, 0, _ => ⟨hs.1, hs.2.1⟩
  | .node _ _ _ k r, hs, i + 1, h => Lm_kid hs.2.2 i (by simp only [len] at h; omega)

/-- Small, as far as it goes. -/
def SmTo (f : F) (k : Nat) : Prop := ∀ j, j < k → len (kid f j) ≤ 1000000000 ∧ Sm (kid f j)
theorem Sm_of : ∀ {f : F}, SmTo f (len f) → Sm f
  | .nil, _ => trivial
  | .node _ _ _ k r, h => ⟨(h 0 (by simp [len])).1, (h 0 (by simp [len])).2, Sm_of fun j hj => h (j + 1) (by simp only [len]; omega)⟩

end Go.Proofs.YtldbmlojgakieaaGreatDoor

namespace Go.Proofs.YtldbmlojgakieaaGreatDoor

open Go.RowKit Go.Deep
end Go.Proofs.YtldbmlojgakieaaGreatDoor

namespace Go.Proofs.YtldbmlojgakieaaGreatDoor

open Go.RowKit Go.Deep

attribute [local go_sem ↓] Go.wp_at_zero Go.wp_at_succ

/-- A block holds numbers, and nothing else. -/
def IB (w : World) (b : Nat) (xs : List Int) : Prop := ∃ cur : Array Value, w.heap[b]? = some (.cells cur 3 (0, 0)) ∧ cur.size = xs.length ∧ ∀ i, i < xs.length → cur[i]? = some (.int .i64 (xs.getD i 0))
theorem IB.pa {w : World} {b lo : Nat} {xs : List Int} (h : IB w b xs) (hl : lo ≤ b) : PA w lo xs (some ⟨b, 0, none⟩) := by
  obtain ⟨cur, h1, h2, h3⟩ := h
  refine Or.inr ⟨b, 0, rfl, hl, fun i hi => ?_⟩
  simp [World.cell?, h1, h3 i hi]
theorem IB.ex {w w' : World} {b : Nat} {xs : List Int} (h : IB w b xs) (hx : Ex w w') : IB w' b xs := by
  obtain ⟨cur, h1, h2⟩ := h
  exact ⟨cur, hx.blk h1, h2⟩
theorem IB.lt {w : World} {b : Nat} {xs : List Int} (h : IB w b xs) : b < w.heap.size := by
  obtain ⟨cur, h1, _⟩ := h
  exact lt_of_block h1

set_option maxRecDepth 100000 in
set_option maxHeartbeats 2000000 in
theorem toIntS_any (xs : List Int) (a : Option Addr) (c lo : Nat) (w : World) (hl : xs.length ≤ 1000000000) (hP : PA w lo xs a) :
    Calls Tryz.prog 115 #[.slice a xs.length c] w fun e w' => e = .returned (.slice (some ⟨w.heap.size, 0, none⟩) xs.length xs.length) ∧ IB w' w.heap.size xs ∧ Ex w w' := by
  have P : Hid (PA w lo xs a) := hP
  clear hP
  obtain ⟨i0, hi, hz0, hz1, hz2⟩ := info_parts Tryz.info3
  have hmk : ∀ w : World, (Instr.makeSlice 119 (.int .i64 (xs.length : Int)) (.int .i64 (xs.length : Int))).run Tryz.prog w = .ok (.slice (some ⟨w.heap.size, 0, none⟩) xs.length xs.length) (w.alloc (.cells (madeCells #[.int .i64 0] xs.length) 3)) := fun w => by
    have := run_make (P := Tryz.prog) w 119 3 i0 _ Tryz.underlying119 hi hz0 .i64 .i64 (xs.length : Int) (xs.length : Int) (by omega) (by omega) (by rw [hz2]; omega) (by omega)
    rw [hz1] at this
    simpa [Value.cells] using this
  clear hz0 hz1 hz2 hi
  go_enter Tryz.func115, Tryz.ntmps115
  go_wp2_with fail
  go_loopw [4] (fun i wr => ∃ (k : Nat) (cur : Array Value), k ≤ xs.length ∧ i = .int .i64 k ∧ Ex w wr ∧ wr.heap[w.heap.size]? = some (.cells cur 3 (0, 0)) ∧ cur.size = xs.length ∧ (∀ j, j < k → cur[j]? = some (.int .i64 (xs.getD j 0)))) (fun i _ => xs.length - (intOf i).toNat)
  case atStart => exact ⟨0, madeCells #[.int .i64 0] xs.length, Nat.zero_le _, rfl, Ex.new _ _, heap_alloc_new _ _, size_madeCells _ _, fun j hj => by omega⟩
  case round =>
    obtain ⟨k, cur, hk, rfl, hx, hob, hcs, hkids⟩ := hrel
    have KI : Hid _ := hkids
    have HCS : Hid (cur.size = xs.length) := hcs
    clear hkids hcs
    by_cases hlt : k < xs.length
    · obtain ⟨b, o, rfl, hlo, hbs, hkk⟩ := PA_at (PA_below P.out hx) (by omega)
      have hc1 := hkk k hlt
      clear hkk
      have cc : wr.cell? ⟨w.heap.size, k, none⟩ = some (cur[k]'(by have := HCS.out; omega)) := by simp [World.cell?, hob]
      have cf : wr.frozen? ⟨w.heap.size, k, none⟩ = false := by simp [World.frozen?, hob]
      go_wp2_with fail
      go_roundw
      case rel =>
        refine ⟨k + 1, cur.setIfInBounds k (.int .i64 (xs.getD k 0)), by omega, by go_num, hx.set (Nat.le_refl _) _, ?_, by simp [HCS.out], fun j hj => ?_⟩
        · simp [World.setCell, Array.getElem?_modify, hob, hlt]
        · by_cases hj' : j < k
          · rw [Array.getElem?_setIfInBounds_ne (by omega)]; exact KI.out j hj'
          · have e : j = k := by omega
            subst e
            rw [Array.getElem?_setIfInBounds_self]; simp [HCS.out, hlt]
      case measure => simp [intOf]; omega
    · go_wp2_with fail
      go_ret
      exact ⟨rfl, ⟨cur, hob, HCS.out, fun i hi => KI.out i (by omega)⟩, hx⟩

set_option maxRecDepth 100000 in
set_option maxHeartbeats 2000000 in
theorem eqIntS_same (xs : List Int) (a a' : Option Addr) (c c' : Nat) (w : World) (hl : xs.length ≤ 1000000000) (hP : PA w 0 xs a) (hP' : PA w 0 xs a') :
    Calls Tryz.prog 124 #[.slice a xs.length c, .slice a' xs.length c'] w fun e w' => e = .returned (.bool true) ∧ Ex w w' := by
  have P : Hid (PA w 0 xs a) := hP
  have P' : Hid (PA w 0 xs a') := hP'
  clear hP hP'
  go_enter Tryz.func124, Tryz.ntmps124
  go_wp2_with fail
  go_loopw [5] (fun i wr => ∃ (k : Nat), k ≤ xs.length ∧ i = .int .i64 k ∧ Ex w wr) (fun i _ => xs.length - (intOf i).toNat)
  case atStart => exact ⟨0, Nat.zero_le _, rfl, Ex.refl _⟩
  case round =>
    obtain ⟨k, hk, rfl, hx⟩ := hrel
    by_cases hlt : k < xs.length
    · obtain ⟨b, o, rfl, hlo, hbs, hkk⟩ := PA_at (PA_below P.out hx) (by omega)
      obtain ⟨b', o', rfl, hlo', hbs', hkk'⟩ := PA_at (PA_below P'.out hx) (by omega)
      have hc1 := hkk k hlt
      have hc2 := hkk' k hlt
      clear hkk hkk'
      have i1 : (0 : Int) ≤ (k : Int) := by omega
      have i2 : (k : Int) < (xs.length : Int) := by omega
      go_wp2_with fail
      go_quiet (fail)
      go_wp2_with fail
      go_roundw
      case rel => exact ⟨k + 1, by omega, by go_num, (hx.drewN _)⟩
      case measure => simp [intOf]; omega
    · go_wp2_with fail
      go_ret
      exact ⟨rfl, hx⟩

set_option maxRecDepth 100000 in
set_option maxHeartbeats 2000000 in
theorem markIntS_any (n c b : Nat) (k0 : Nat) (cur0 : Array Value) (w : World) (hn : n ≤ 1000000000) (hk0 : k0 ≤ 1000000000) (hb : w.heap[b]? = some (.cells cur0 3 (0, 0))) (hc : cur0.size = n) :
    Calls Tryz.prog 63 #[.slice (some ⟨b, 0, none⟩) n c, .int .i64 k0] w fun e w' => e = .returned (.int .i64 ((k0 + n : Nat) : Int)) ∧ Fr b w w' := by
  have B : Hid _ := hb
  clear hb
  go_enter Tryz.func63, Tryz.ntmps63
  go_wp2_with fail
  go_loopw [1, 5] (fun kv i wr => ∃ (k : Nat) (cur : Array Value), k ≤ n ∧ i = .int .i64 k ∧ kv = .int .i64 ((k0 + k : Nat) : Int) ∧ Fr b w wr ∧ wr.heap[b]? = some (.cells cur 3 (0, 0)) ∧ cur.size = n) (fun _ i _ => n - (intOf i).toNat)
  case atStart => exact ⟨0, cur0, Nat.zero_le _, rfl, rfl, Fr.refl _ _, B.out, hc⟩
  case round =>
    obtain ⟨k, cur, hk, rfl, rfl, hx, hob, hcs⟩ := hrel
    have HCS : Hid (cur.size = n) := hcs
    clear hcs
    by_cases hlt : k < n
    · have cc : wr.cell? ⟨b, k, none⟩ = some (cur[k]'(by have := HCS.out; omega)) := by simp [World.cell?, hob]
      have cf : wr.frozen? ⟨b, k, none⟩ = false := by simp [World.frozen?, hob]
      go_wp2_with fail
      go_roundw
      case rel =>
        refine ⟨k + 1, cur.setIfInBounds k (.int .i64 ((k0 : Int) + (k : Int))), by omega, by go_num, by go_num, hx.set (Or.inl rfl) _, ?_, by simp [HCS.out]⟩
        simp [World.setCell, Array.getElem?_modify, hob]
      case measure => simp [intOf]; omega
    · have e : k = n := by omega
      have E : Hid (k = n) := e
      clear e
      go_wp2_with fail
      go_ret
      exact ⟨by rw [E.out]; rfl, hx⟩

end Go.Proofs.YtldbmlojgakieaaGreatDoor

namespace Go.Proofs.YtldbmlojgakieaaGreatDoor

open Go.RowKit Go.Deep

attribute [local go_sem ↓] Go.wp_at_zero Go.wp_at_succ

/-- Values set in a row of cells. -/
def setL (w : World) (b : Nat) : Nat → List Value → World
  | _, [] => w
  | o, v :: r => setL (w.setCell ⟨b, o, none⟩ v) b (o + 1) r
def setA (cur : Array Value) : Nat → List Value → Array Value
  | _, [] => cur
  | o, v :: r => setA (cur.setIfInBounds o v) (o + 1) r
theorem setA_size : ∀ (vs : List Value) (cur : Array Value) (o : Nat), (setA cur o vs).size = cur.size
  | [], _, _ => rfl
  | v :: r, cur, o => by rw [setA, setA_size r]; simp
theorem setA_out : ∀ (vs : List Value) (cur : Array Value) (o i : Nat), i < o ∨ o + vs.length ≤ i → (setA cur o vs)[i]? = cur[i]?
  | [], _, _, _, _ => rfl
  | v :: r, cur, o, i, h => by
    simp only [List.length_cons] at h
    rw [setA, setA_out r _ _ _ (by omega), Array.getElem?_setIfInBounds_ne (by omega)]
theorem setA_in : ∀ (vs : List Value) (cur : Array Value) (o i : Nat) (v : Value), vs[i]? = some v → o + i < cur.size → (setA cur o vs)[o + i]? = some v
  | [], _, _, _, _, h, _ => by simp at h
  | u :: r, cur, o, 0, v, h, hs => by
    simp only [List.getElem?_cons_zero, Option.some.injEq] at h
    subst h
    rw [setA, setA_out r _ _ _ (by omega), Nat.add_zero, Array.getElem?_setIfInBounds_self, if_pos (by omega)]
  | u :: r, cur, o, i + 1, v, h, hs => by
    rw [setA, show o + (i + 1) = o + 1 + i by omega]
    exact setA_in r _ _ _ _ (by simpa using h) (by simp; omega)
theorem setA_all (vs : List Value) (cur : Array Value) (h : cur.size = vs.length) : setA cur 0 vs = vs.toArray := by
  refine Array.ext' (List.ext_getElem? fun i => ?_)
  rw [Array.getElem?_toList]
  rcases Nat.lt_or_ge i vs.length with hi | hi
  · have := setA_in vs cur 0 i vs[i] (by simp [hi]) (by omega)
    rw [Nat.zero_add] at this
    rw [this]; simp [hi]
  · rw [setA_out vs cur 0 i (Or.inr (by omega))]
    simp [hi, h]
theorem setL_size : ∀ (vs : List Value) (w : World) (b o : Nat), (setL w b o vs).heap.size = w.heap.size
  | [], _, _, _ => rfl
  | v :: r, w, b, o => by rw [setL, setL_size r, World.size_setCell]
theorem setL_blk : ∀ (vs : List Value) {w : World} {b o : Nat} {cur : Array Value} {t : TypeId}, w.heap[b]? = some (.cells cur t (0, 0)) → (setL w b o vs).heap[b]? = some (.cells (setA cur o vs) t (0, 0))
  | [], _, _, _, _, _, h => h
  | v :: r, w, b, o, cur, t, h => by
    rw [setL, setA]
    exact setL_blk r (by simp [World.setCell, Array.getElem?_modify, h])
theorem setL_other : ∀ (vs : List Value) {w : World} {b o n : Nat}, n ≠ b → (setL w b o vs).heap[n]? = w.heap[n]?
  | [], _, _, _, _, _ => rfl
  | v :: r, w, b, o, n, h => by rw [setL, setL_other r h, Below.heap_setCell _ _ _ _ (by simpa using h)]
theorem setL_ex : ∀ (vs : List Value) {a w : World} {b o : Nat}, Ex a w → a.heap.size ≤ b → Ex a (setL w b o vs)
  | [], _, _, _, _, h, _ => h
  | v :: r, a, w, b, o, h, hb => by rw [setL]; exact setL_ex r (h.set hb v) hb
theorem setL_kp : ∀ (vs : List Value) {lo : Nat} {a w : World} {b o : Nat}, Kp lo a w → (b < lo ∨ a.heap.size ≤ b) → Kp lo a (setL w b o vs)
  | [], _, _, _, _, _, h, _ => h
  | v :: r, lo, a, w, b, o, h, hb => by rw [setL]; exact setL_kp r (h.set hb v) hb
theorem blk_set {w : World} {n i : Nat} {vs : Array Value} {t : TypeId} (h : w.heap[n]? = some (.cells vs t (0, 0))) (v : Value) : (w.setCell ⟨n, i, none⟩ v).heap[n]? = some (.cells (vs.setIfInBounds i v) t (0, 0)) := by
  simp [World.setCell, Array.getElem?_modify, h]
theorem blk_off {w : World} {n m i : Nat} {o : Obj} (h : w.heap[n]? = some o) (hn : n ≠ m) (v : Value) : (w.setCell ⟨m, i, none⟩ v).heap[n]? = some o := by
  rw [Below.heap_setCell _ _ _ _ (by simpa using hn)]; exact h
theorem blk_cell {w : World} {n : Nat} {vs : Array Value} {t : TypeId} (h : w.heap[n]? = some (.cells vs t (0, 0))) (i : Nat) : w.cell? ⟨n, i, none⟩ = vs[i]? := by
  simp [World.cell?, h]
theorem blk_free {w : World} {n : Nat} {vs : Array Value} {t : TypeId} (h : w.heap[n]? = some (.cells vs t (0, 0))) (i : Nat) : w.frozen? ⟨n, i, none⟩ = false := by
  simp [World.frozen?, h]

end Go.Proofs.YtldbmlojgakieaaGreatDoor

namespace Go.Proofs.YtldbmlojgakieaaGreatDoor

open Go.RowKit Go.Deep

attribute [local go_sem ↓] Go.wp_at_zero Go.wp_at_succ

/-- A builder in block b, with the text t; its buffer lies from block B on. -/
def Bd (B b : Nat) (t : ByteArray) (w : World) : Prop := Lib.IsBuilder 86 5 B b (Lib.strCells t) w

/-- Below B all is as it was; and all from there on, but the builder and bytes. -/
structure Fx (B b : Nat) (w w' : World) : Prop where
  below : Below B w w'
  typed : ∀ k cs T fr, k ≠ b → w.heap[k]? = some (.cells cs T fr) → T ≠ 5 → w'.heap[k]? = some (.cells cs T fr)

theorem Fx.refl (B b : Nat) (w : World) : Fx B b w w := ⟨Below.refl _ _, fun _ _ _ _ _ h _ => h⟩
theorem Fx.trans {B b : Nat} {w1 w2 w3 : World} (h : Fx B b w1 w2) (k : Fx B b w2 w3) : Fx B b w1 w3 :=
  ⟨h.below.trans k.below, fun i cs T fr hi hc hT => k.typed i cs T fr hi (h.typed i cs T fr hi hc hT) hT⟩
theorem Fx.of_ex {B b : Nat} {w w' : World} (hB : B ≤ w.heap.size) (h : Ex w w') : Fx B b w w' := ⟨Below.mono h hB, fun _ _ _ _ _ hc _ => h.blk hc⟩
theorem Fx.ex {B b : Nat} {w1 w2 w3 : World} (h : Fx B b w1 w2) (hB : B ≤ w1.heap.size) (k : Ex w2 w3) : Fx B b w1 w3 := h.trans (Fx.of_ex (Nat.le_trans hB h.below.size) k)
theorem Fx.ks {B b : Nat} {w w' : World} (h : Fx B b w w') : Ks (fun k => k < B) w w' := fun k hk _ => h.below.block k hk

theorem Bd.lt {B b : Nat} {t : ByteArray} {w : World} (h : Bd B b t w) : b < w.heap.size := by
  rcases h with h | h
  · exact h.lt
  · exact h.lt
theorem Bd.le {B b : Nat} {t : ByteArray} {w : World} (h : Bd B b t w) : B ≤ b := by
  rcases h with h | h
  · exact h.1
  · exact h.1
theorem BuilderAt_ex {T e : TypeId} {B b : Nat} {p : Value} {bs : List Value} {w w' : World} (h : Lib.BuilderAt T e B b p bs w) (hx : Ex w w') : Lib.BuilderAt T e B b p bs w' := by
  obtain ⟨h1, v, h2, h3, h4⟩ := h
  refine ⟨h1, v, hx.blk h2, ?_, h4⟩
  obtain ⟨q0, q | ⟨g, cap, cur, q1, q2, q3, q4⟩⟩ := h3
  · exact ⟨q0, Or.inl q⟩
  · exact ⟨q0, Or.inr ⟨g, cap, cur, q1, q2, hx.blk q3, q4⟩⟩
theorem Bd.ex {B b : Nat} {t : ByteArray} {w w' : World} (h : Bd B b t w) (hx : Ex w w') : Bd B b t w' := by
  rcases h with h | h
  · exact Or.inl (BuilderAt_ex h hx)
  · exact Or.inr (BuilderAt_ex h hx)
theorem Bd.new (w : World) : Bd w.heap.size w.heap.size ⟨#[]⟩ (w.alloc (.cells #[.pointer none, .slice none 0 0] 86)) := Lib.fresh_isBuilder _ _ w
theorem strCells_append (a b : ByteArray) : Lib.strCells (a ++ b) = Lib.strCells a ++ Lib.strCells b := by simp [Lib.strCells]

/-- What is built, told. -/
theorem string_any {B b : Nat} {t : ByteArray} {w : World} (h : Bd B b t w) :
    Calls Tryz.prog 43 #[.pointer (some ⟨b, 0, none⟩)] w fun e w' => e = .returned (.string t) ∧ Below B w w' :=
  Tryz.Builder_String_any B b t.data.toList w h (Nat.le_of_lt (Nat.lt_of_le_of_lt h.le h.lt))

theorem infoByte : (Tryz.prog.info? 5).map (fun i => (i.zero, i.size, i.bytes)) = some (some (.int .u8 0), 1, 1) := by kernel_rfl

/-- Ahead of a write. -/
theorem copyCheck_any (B b : Nat) (t : ByteArray) (w : World) (h : Bd B b t w) :
    Calls Tryz.prog 65 #[.pointer (some ⟨b, 0, none⟩)] w fun e w' => e = .returned (.tuple #[]) ∧ Lib.BuilderAt 86 5 B b (.pointer (some ⟨b, 0, none⟩)) (Lib.strCells t) w' ∧ Fx B b w w' := by
  rcases h with h | h
  · have hc := Any.Builder_copyCheck_fresh (ρ := Tryz.lays156_ren) { Tryz.lays156 with } Tryz.Builder_Extra_156.toX72 b w h.cell0 h.shape h.frozen0
    change Calls Tryz.prog 65 _ _ _ at hc
    refine hc.mono ?_
    rintro e w' ⟨rfl, rfl⟩
    exact ⟨rfl, h.used _, (Below.refl B w).setCell (p := ⟨b, 0, none⟩) h.1 _, fun k cs T fr hk hcs _ => by rw [Below.heap_setCell _ _ _ _ (fun e => hk e)]; exact hcs⟩
  · have hc := Any.Builder_copyCheck_used (ρ := Tryz.lays156_ren) { Tryz.lays156 with } Tryz.Builder_Extra_156.toX72 b w h.cell0
    change Calls Tryz.prog 65 _ _ _ at hc
    refine hc.mono ?_
    rintro e w' ⟨rfl, rfl⟩
    exact ⟨rfl, h, Fx.refl _ _ _⟩

set_option maxRecDepth 100000 in
set_option maxHeartbeats 2000000 in
/-- A write. -/
theorem write_any (B b : Nat) (t s : ByteArray) (w : World) (h : Bd B b t w) (hlen : t.size + s.size ≤ 140737488355328) :
    Calls Tryz.prog 40 #[.pointer (some ⟨b, 0, none⟩), .string s] w fun e w' => e = .returned (.tuple #[.int .i64 s.size, .nilIface]) ∧ Bd B b (t ++ s) w' ∧ Fx B b w w' := by
  obtain ⟨i0, hi, hz0, hz1, hz2⟩ := info_parts infoByte
  have hBb : B ≤ w.heap.size := Nat.le_of_lt (Nat.lt_of_le_of_lt h.le h.lt)
  have CC := copyCheck_any B b t w h
  clear h
  go_enter Tryz.func40, Tryz.ntmps40
  go_wp2_with fail
  refine Calls.mono CC ?_
  rintro e w1 ⟨rfl, h1, hx1⟩
  obtain ⟨hB, v, hbk, hown, hne⟩ := h1
  have hlt : b < w1.heap.size := by
    rcases Nat.lt_or_ge b w1.heap.size with h' | h'
    · exact h'
    · simp [Array.getElem?_eq_none h'] at hbk
  have hB1 : B ≤ w1.heap.size := Nat.le_trans hBb hx1.below.size
  have X1 : Hid _ := hx1
  have c0 : w1.cell? ⟨b, 0, none⟩ = some (.pointer (some ⟨b, 0, none⟩)) := by rw [Lib.cell_of_heap hbk]; rfl
  have c1 : w1.cell? ⟨b, 1, none⟩ = some v := by rw [Lib.cell_of_heap hbk]; rfl
  have m1 : t.size + s.size ≤ maxLen := by unfold maxLen; omega
  rw [Lib.strCells_length] at hown
  clear CC hx1
  go_wp2_with (at_builtin; refine Lib.wpList_append_own_string _ rfl _ _ 84 9 rfl B 5 i0 Tryz.underlying84 Tryz.underlying9 hi hz0 hz1 hz2 v t.size (Lib.strCells t) rfl hown s rfl m1 hlen hB1 ?_)
  intro v' w2 hown' hgrow _
  have hb2 : w2.heap[b]? = some (.cells #[.pointer (some ⟨b, 0, none⟩), v] 86 (0, 0)) := by
    rw [hgrow.block b hlt (fun e => hne e.symm)]
    exact hbk
  have d0 : w2.cell? ⟨b, 0, none⟩ = some (.pointer (some ⟨b, 0, none⟩)) := by rw [Lib.cell_of_heap hb2]; rfl
  have d1 : w2.cell? ⟨b, 1, none⟩ = some v := by rw [Lib.cell_of_heap hb2]; rfl
  have f1 : w2.frozen? ⟨b, 1, none⟩ = false := Lib.frozen_of_heap hb2 1
  obtain ⟨ao, n', cap, rfl⟩ : ∃ ao n' cap, v' = .slice ao n' cap := by
    rcases hown'.2 with ⟨hv, _⟩ | ⟨g, cap, cur, hv, _⟩
    · exact ⟨_, _, _, hv⟩
    · exact ⟨_, _, _, hv⟩
  have HO : Hid _ := hown'
  have HW : Hid _ := hown
  have HG : Hid _ := hgrow
  have HB : Hid _ := hb2
  have HB0 : Hid (B ≤ b) := hB
  clear hown hown' hgrow c0 c1 hbk hb2 hB
  go_wp2_with fail
  go_ret2
  refine ⟨rfl, Or.inr ?_, X1.out.trans ⟨?_, ?_⟩⟩
  · refine Lib.BuilderAt.put (T := 86) (e := 5) HB0.out HB.out (bs' := Lib.strCells (t ++ s)) ?_ (by decide)
    rw [Lib.strCells_length, ByteArray.size_append, strCells_append]
    exact HO.out
  · exact ((Below.refl B w1).grown HG.out hB1 (fun k hk => (World.ownsRow.lt HW.out k hk).1)).setCell (p := ⟨b, 1, none⟩) HB0.out _
  · intro k cs T fr hk hcs hT
    rw [Below.heap_setCell _ _ _ _ (fun e => hk e)]
    have hkl : k < w1.heap.size := by
      rcases Nat.lt_or_ge k w1.heap.size with h' | h'
      · exact h'
      · simp [Array.getElem?_eq_none h'] at hcs
    rw [HG.out.block k hkl (fun e => Lib.ownBlock_ne HW.out hcs hT e.symm)]
    exact hcs

end Go.Proofs.YtldbmlojgakieaaGreatDoor

namespace Go.Proofs.YtldbmlojgakieaaGreatDoor

open Go.RowKit Go.Deep

attribute [local go_sem ↓] Go.wp_at_zero Go.wp_at_succ

theorem itoa_dec (n : Int) (h0 : 0 ≤ n) (h1 : n ≤ 9999) (w : World) (ht : Tab w) :
    Calls Tryz.prog 125 #[.int .i64 n] w fun e w' => e = .returned (.string (dec n)) ∧ Ex w w' := by
  refine (itoa_any n (by omega) (by omega) w ht).mono ?_
  rintro e w' ⟨rfl, hx⟩
  refine ⟨ret_s ?_, hx⟩
  rw [dec, Lib.itoa, if_neg (by omega)]

set_option maxRecDepth 100000 in
set_option maxHeartbeats 1000000 in
theorem pathText_any (p : List Int) (a : Option Addr) (c : Nat) (w : World) (hp : pathB p = true) (hl : p.length ≤ 4) (hT : PA w 0 p a) (ht : Tab w) :
    Calls Tryz.prog 126 #[.slice a p.length c] w fun e w' => e = .returned (.string (pathX p)) ∧ Ex w w' := by
  have T : Hid (∀ w', Ex w w' → PA w' 0 p a) := fun _ h => PA_below hT h
  have SZ : Hid (∀ j, j ≤ p.length → (upX (fun i => ⟨#[46]⟩ ++ dec (p.getD i 0)) j).size ≤ 8) := fun j hj => by
    have h1 := upX_upto (fun i => ⟨#[46]⟩ ++ dec (p.getD i 0)) hj
    have h2 := pathX_size hp
    unfold pathX at h2
    omega
  have DC : Hid (∀ j, j < p.length → ∀ w', Ex w w' → Calls Tryz.prog 125 #[.int .i64 (p.getD j 0)] w' fun e w'' => e = .returned (.string (dec (p.getD j 0))) ∧ Ex w' w'') := fun j hj w' hx => by
    obtain ⟨h1, h2⟩ := pathB_at hp hj
    exact itoa_dec _ h1 (by omega) w' (ht.ex hx)
  have DS : Hid (∀ j, j < p.length → (dec (p.getD j 0)).size ≤ 1) := fun j hj => dec_size1 (by have := (pathB_at hp hj).2; omega)
  have PX : Hid (pathX p = upX (fun i => ⟨#[46]⟩ ++ dec (p.getD i 0)) p.length) := rfl
  generalize pathX p = px at PX ⊢
  clear hp hT ht
  go_enter Tryz.func126, Tryz.ntmps126
  go_wp2_with fail
  go_loopw [3, 5, 8] (fun ov _ i wr => ∃ (j : Nat), j ≤ p.length ∧ i = .int .i64 j ∧ ov = .string (upX (fun i => ⟨#[46]⟩ ++ dec (p.getD i 0)) j) ∧ Ex w wr) (fun _ _ i _ => p.length - (intOf i).toNat)
  case atStart => exact ⟨0, by omega, rfl, rfl, Ex.refl _⟩
  case round =>
    obtain ⟨j, hj, rfl, rfl, hx⟩ := hrel
    have X : Hid (Ex w wr) := hx
    clear hx
    by_cases hlt : j < p.length
    · obtain ⟨b, o, rfl, hbs, _, hc⟩ := PA_at (T.out wr X.out) (by omega)
      have ck := hc j hlt
      have HI : Hid _ := DC.out j hlt wr X.out
      have sd := DS.out j hlt
      have st := SZ.out j hj
      have HU : Hid (upX (fun i => ⟨#[46]⟩ ++ dec (p.getD i 0)) (j + 1) = upX (fun i => ⟨#[46]⟩ ++ dec (p.getD i 0)) j ++ (⟨#[46]⟩ ++ dec (p.getD j 0))) := rfl
      generalize upX (fun i => ⟨#[46]⟩ ++ dec (p.getD i 0)) j = t at st HU ⊢
      generalize p.getD j 0 = nn at ck sd HI HU ⊢
      generalize dec nn = dd at sd HI HU ⊢
      have n1 : ¬ 9223372036854775807 < 1 + dd.size := by omega
      have n2 : ¬ 9223372036854775807 < t.size + (1 + dd.size) := by omega
      clear hc sd st
      go_wp2_with fail
      refine Calls.mono HI.out ?_
      rintro e w1 ⟨rfl, hb1⟩
      have X1 : Hid (Ex w w1) := X.out.trans hb1
      clear hb1
      go_wp2_with fail
      go_roundw
      case rel => exact ⟨j + 1, by omega, by go_num, by rw [HU.out], X1.out⟩
      case measure => simp [intOf]; omega
    · have hje : j = p.length := by omega
      have HR : Hid (px = upX (fun i => ⟨#[46]⟩ ++ dec (p.getD i 0)) j) := by show _ = _; rw [hje]; exact PX.out
      clear hje
      go_wp2_with fail
      go_ret
      exact ⟨ret_s HR.out.symm, X.out⟩

set_option maxRecDepth 100000 in
set_option maxHeartbeats 2000000 in
theorem termWord_any (k n : Int) (s : ByteArray) (p : List Int) (pa : Option Addr) (pc l : Nat) (a : Option Addr) (c : Nat) (w : World) (h : tokB k n s p l = true) (hT : PA w 0 p pa) (ht : Tab w) :
    Calls Tryz.prog 110 #[.agg #[.int .i64 k, .int .i64 n, .string s, .slice pa p.length pc, .slice a l c]] w fun e w' => e = .returned (.string (wordX k n s p)) ∧ Ex w w' := by
  have N : Hid (∀ k, Ex w (w.alloc (.cells #[.int .i64 k, .int .i64 n, .string s, .slice pa p.length pc, .slice a l c] 121))) := fun _ => Ex.new _ _
  have T : Hid (∀ w', Ex w w' → PA w' 0 p pa) := fun _ h => PA_below hT h
  have TB : Hid (∀ w', Ex w w' → Tab w') := fun _ h => ht.ex h
  clear hT ht
  rcases tok_kinds h with ⟨rfl, h0, h1, hl⟩ | ⟨rfl, hl⟩ | ⟨hk, hl⟩ | ⟨rfl, hp, hp4, hl⟩ | ⟨rfl, hp, hp4, hl⟩
  · have HR : Hid (wordX 1 n s p = dec n) := rfl
    clear h hl
    go_enter Tryz.func110, Tryz.ntmps110
    go_wp2_with fail
    refine Calls.mono (itoa_dec n h0 h1 _ (TB.out _ (N.out _))) ?_
    rintro e w1 ⟨rfl, hb1⟩
    go_wp2_with fail
    go_ret
    exact ⟨ret_s HR.out.symm, (N.out _).trans hb1⟩
  · have HR : Hid (wordX 2 n s p = s) := rfl
    clear h hl
    go_enter Tryz.func110, Tryz.ntmps110
    go_wp2_with fail
    go_ret
    exact ⟨ret_s HR.out.symm, N.out _⟩
  · clear h hl
    rcases hk with rfl | rfl | rfl | rfl
    all_goals
      go_enter Tryz.func110, Tryz.ntmps110
      go_wp2_with fail
      go_ret
      exact ⟨rfl, N.out _⟩
  · have HR : Hid (wordX 7 n s p = ⟨#[97, 116]⟩ ++ pathX p) := rfl
    have PT : Hid (∀ w', Ex w w' → Calls Tryz.prog 126 #[.slice pa p.length pc] w' fun e w'' => e = .returned (.string (pathX p)) ∧ Ex w' w'') := fun w' h => pathText_any p pa pc w' hp hp4 (T.out w' h) (TB.out w' h)
    have zp := pathX_size hp
    generalize pathX p = px at HR PT zp
    have n1 : ¬ 9223372036854775807 < 2 + px.size := by omega
    clear h hl zp hp hp4
    go_enter Tryz.func110, Tryz.ntmps110
    go_wp2_with fail
    refine Calls.mono (PT.out _ (N.out _)) ?_
    rintro e w1 ⟨rfl, hb1⟩
    go_wp2_with fail
    go_ret
    exact ⟨ret_s HR.out.symm, (N.out _).trans hb1⟩
  · have HR : Hid (wordX 8 n s p = ⟨#[112, 117, 116]⟩ ++ pathX p) := rfl
    have PT : Hid (∀ w', Ex w w' → Calls Tryz.prog 126 #[.slice pa p.length pc] w' fun e w'' => e = .returned (.string (pathX p)) ∧ Ex w' w'') := fun w' h => pathText_any p pa pc w' hp hp4 (T.out w' h) (TB.out w' h)
    have zp := pathX_size hp
    generalize pathX p = px at HR PT zp
    have n1 : ¬ 9223372036854775807 < 3 + px.size := by omega
    clear h hl zp hp hp4
    go_enter Tryz.func110, Tryz.ntmps110
    go_wp2_with fail
    refine Calls.mono (PT.out _ (N.out _)) ?_
    rintro e w1 ⟨rfl, hb1⟩
    go_wp2_with fail
    go_ret
    exact ⟨ret_s HR.out.symm, (N.out _).trans hb1⟩

set_option maxRecDepth 100000 in
set_option maxHeartbeats 4000000 in
theorem termText_any : ∀ (d : Nat) (k n : Int) (s : ByteArray) (p : List Int) (pa : Option Addr) (pc : Nat) (f : TM) (a : Option Addr) (c : Nat) (w : World), TO d k n s p f → tW f ≤ 1048576 → s.size + p.length ≤ 1048576 → PA w 0 p pa → MA w 0 f a → Tab w →
    Calls Tryz.prog 85 #[.agg #[.int .i64 k, .int .i64 n, .string s, .slice pa p.length pc, .slice a (tlen f) c]] w fun e w' => e = .returned (.string (termX d k n s p f)) ∧ Ex w w' := by
  intro d
  induction d with
  | zero => intro k n s p pa pc f a c w h; exact h.elim
  | succ d ih =>
    intro k n s p pa pc f a c w h hz hzs hP hM ht
    have N : Hid (Ex w (w.alloc (.cells #[.int .i64 k, .int .i64 n, .string s, .slice pa p.length pc, .slice a (tlen f) c] 121))) := Ex.new _ _
    have M : Hid (∀ w', Ex w w' → MA w' 0 f a) := fun _ h => MA_below hM h
    have WD : Hid (∀ w', Ex w w' → Calls Tryz.prog 110 #[.agg #[.int .i64 k, .int .i64 n, .string s, .slice pa p.length pc, .slice a (tlen f) c]] w' fun e w'' => e = .returned (.string (wordX k n s p)) ∧ Ex w' w'') := fun w' hx => termWord_any k n s p pa pc _ a c w' h.1 (PA_below hP hx) (ht.ex hx)
    have HK : Hid (∀ j, j < tlen f → ∀ (pa' : Option Addr) (pc' : Nat) (a' : Option Addr) (c' : Nat) (w' : World), Ex w w' → PA w' 0 (tpath f j) pa' → MA w' 0 (tkid f j) a' → Calls Tryz.prog 85 #[.agg #[.int .i64 (tkind f j), .int .i64 (tnum f j), .string (tname f j), .slice pa' (tpath f j).length pc', .slice a' (tlen (tkid f j)) c']] w' fun e w'' => e = .returned (.string (kidX d f j)) ∧ Ex w' w'') := fun j hj pa' pc' a' c' w' hx q1 q2 =>
      ih _ _ _ _ pa' pc' _ a' c' w' (h.2 j hj) (Nat.le_trans (tW_kid hj) hz) (by have := tWk_le hj; have e2 : tWk f j = (tname f j).size + (tpath f j).length + tW (tkid f j) := rfl; omega) q1 q2 (ht.ex hx)
    have SZ : Hid (∀ j, j < tlen f → (wordX k n s p ++ upX (fun i => ⟨#[32]⟩ ++ kidX d f i) j).size + (kidX d f j).size ≤ 100000000) := fun j hj => by
      have h1 := upX_upto (fun i => ⟨#[32]⟩ ++ kidX d f i) (show j ≤ tlen f by omega)
      have h2 := termX_size h
      rw [termX_at, ByteArray.size_append] at h2
      have h3 := kidX_size h.2 hz hj
      rw [ByteArray.size_append]
      omega
    have RX : Hid (termX (d + 1) k n s p f = wordX k n s p ++ upX (fun i => ⟨#[32]⟩ ++ kidX d f i) (tlen f)) := rfl
    have HUU : Hid (∀ j, (wordX k n s p ++ upX (fun i => ⟨#[32]⟩ ++ kidX d f i) j) ++ (⟨#[32]⟩ ++ kidX d f j) = wordX k n s p ++ upX (fun i => ⟨#[32]⟩ ++ kidX d f i) (j + 1)) := fun j => by rw [cat3, upX]
    have H0 : Hid (wordX k n s p ++ upX (fun i => ⟨#[32]⟩ ++ kidX d f i) 0 = wordX k n s p) := cat_nil _
    have hln : tlen f ≤ 1048576 := by rw [tW_sum] at hz; omega
    generalize termX (d + 1) k n s p f = R at RX ⊢
    generalize wordX k n s p = wx at WD SZ RX HUU H0
    clear h hz hzs hP hM ht ih
    go_enter Tryz.func85, Tryz.ntmps85
    go_wp2_with fail
    refine Calls.mono (WD.out _ N.out) ?_
    rintro e w1 ⟨rfl, hb1⟩
    have X1 : Hid (Ex (w.alloc (.cells #[.int .i64 k, .int .i64 n, .string s, .slice pa p.length pc, .slice a (tlen f) c] 121)) w1) := hb1
    have c4 : w1.cell? ⟨w.heap.size, 4, none⟩ = some (.slice a (tlen f) c) := hb1.at (by simp)
    clear hb1 WD
    go_wp2_with fail
    clear c4
    go_loopw [3, 5, 11] (fun ov _ i wr => ∃ (j : Nat), j ≤ tlen f ∧ i = .int .i64 j ∧ ov = .string (wx ++ upX (fun i => ⟨#[32]⟩ ++ kidX d f i) j) ∧ Ex (w.alloc (.cells #[.int .i64 k, .int .i64 n, .string s, .slice pa p.length pc, .slice a (tlen f) c] 121)) wr) (fun _ _ i _ => tlen f - (intOf i).toNat)
    case atStart => exact ⟨0, by omega, rfl, by rw [H0.out], X1.out⟩
    case round =>
      obtain ⟨j, hj, rfl, rfl, hx⟩ := hrel
      have E : Hid (Ex (w.alloc (.cells #[.int .i64 k, .int .i64 n, .string s, .slice pa p.length pc, .slice a (tlen f) c] 121)) wr) := hx
      clear hx
      by_cases hlt : j < tlen f
      · obtain ⟨b, o, rfl, _, hbs, hk⟩ := MA_at (M.out wr (N.out.trans E.out)) (by omega)
        obtain ⟨e0, e1, e2, ⟨pa', pc', e3, hp'⟩, a', c', e4, hm'⟩ := hk j hlt
        have HI : Hid _ := HK.out j hlt pa' pc' a' c' (wr.alloc (.cells #[.int .i64 (tkind f j), .int .i64 (tnum f j), .string (tname f j), .slice pa' (tpath f j).length pc', .slice a' (tlen (tkid f j)) c'] 121)) (N.out.trans (E.out.trans (Ex.new _ _))) (PA_below (PS_pa.1 hp'.1) (Ex.new _ _)) (MA_below hm' (Ex.new _ _))
        have hs := SZ.out j hlt
        have HV := HUU.out j
        have HV2 : Hid _ := HV
        clear HV
        generalize wx ++ upX (fun i => ⟨#[32]⟩ ++ kidX d f i) j = t at hs HV2 ⊢
        generalize kidX d f j = x at hs HV2 HI
        have n1 : ¬ 9223372036854775807 < 1 + x.size := by omega
        have n2 : ¬ 9223372036854775807 < t.size + (1 + x.size) := by omega
        clear hk hp' hm' hs
        have zr : w.heap.size < wr.heap.size := by have := E.out.size; rw [World.size_alloc] at this; omega
        go_wp2_with fail
        refine Calls.mono HI.out ?_
        rintro e w2 ⟨rfl, hb2⟩
        have E1 : Hid _ := E.out.trans ((Ex.new _ _).trans hb2)
        clear hb2 HI
        go_wp2_with fail
        go_roundw
        case rel => exact ⟨j + 1, by omega, by go_num, by rw [HV2.out], E1.out⟩
        case measure => simp [intOf]; omega
      · have hje : j = tlen f := by omega
        have HR : Hid (R = wx ++ upX (fun i => ⟨#[32]⟩ ++ kidX d f i) j) := by show _ = _; rw [hje]; exact RX.out
        clear hje
        go_wp2_with fail
        go_ret
        exact ⟨ret_s HR.out.symm, N.out.trans E.out⟩

end Go.Proofs.YtldbmlojgakieaaGreatDoor

namespace Go.Proofs.YtldbmlojgakieaaGreatDoor

open Go.RowKit Go.Deep

attribute [local go_sem ↓] Go.wp_at_zero Go.wp_at_succ

theorem join_snoc (xs : List (List UInt8)) (x sep : List UInt8) (h : xs ≠ []) : Lib.join (xs ++ [x]) sep = Lib.join xs sep ++ (sep ++ x) := by
  cases xs with
  | nil => exact absurd rfl h
  | cons y r =>
    rw [List.cons_append, Lib.join_cons, Lib.join_cons]
    simp [Lib.joinTail]

/-- The texts of terms, one by one. -/
def rowTs (f : TM) (n : Nat) : List ByteArray := (List.range n).map fun i => ⟨#[32]⟩ ++ kidX 8 f i
theorem rowTs_len (f : TM) (n : Nat) : (rowTs f n).length = n := by simp [rowTs]
theorem rowTs_succ (f : TM) (n : Nat) : rowTs f (n + 1) = rowTs f n ++ [⟨#[32]⟩ ++ kidX 8 f n] := by simp [rowTs, List.range_succ]
theorem toL (a b : ByteArray) : (a ++ b).data.toList = a.data.toList ++ b.data.toList := by rw [ByteArray.data_append, Array.toList_append]
theorem join_rows (f : TM) : ∀ n, Lib.join ((rowTs f n).map (·.data.toList)) [59] = (upX (rowX f) n).data.toList
  | 0 => rfl
  | n + 1 => by
    have e : (upX (rowX f) (n + 1)).data.toList = (upX (rowX f) n).data.toList ++ (rowX f n).data.toList := toL _ _
    rw [rowTs_succ, List.map_append, List.map_cons, List.map_nil, e, ← join_rows f n]
    by_cases h0 : n = 0
    · subst h0
      have e2 : (rowX f 0).data.toList = ((⟨#[32]⟩ : ByteArray) ++ kidX 8 f 0).data.toList := by rw [rowX, if_pos rfl, nil_cat]
      rw [e2]
      simp [rowTs, Lib.join]
    · have e2 : (rowX f n).data.toList = [59] ++ ((⟨#[32]⟩ : ByteArray) ++ kidX 8 f n).data.toList := by rw [rowX, if_neg h0, toL]
      rw [join_snoc, e2]
      intro e
      have := congrArg List.length e
      rw [List.length_map, rowTs_len] at this
      exact h0 this
theorem join_rowsX (f : TM) : (⟨(Lib.join ((rowTs f (tlen f)).map (·.data.toList)) [59]).toArray⟩ : ByteArray) = rowsX f := by
  rw [join_rows]; rfl

/-- One value put behind what is owned. -/
theorem wpList_append_one {P : Program} {w : World} {ops : Array Oper} {rest : List Oper} {o : Oper} {a : Act} {Q : Exit → Act → World → Prop} (hgd : o.guard = none) (s x : Operand) (t : TypeId)
    (ho : o.op = .call { callee := .builtin .append, args := #[s, x], argTypes := #[t, t] })
    (w0 : World) (hE : Ex w0 w) (e : TypeId) (i : TypeInfo) (z : Value) (bytes : Nat) (ht : P.underlying t = some (.slice e)) (hi : P.info? e = some i) (hz : i.zero = some z) (hsize : i.size = 1) (hby : i.bytes = bytes) (hzs : z.cells.size = 1) (hb64 : bytes ≤ 64)
    (v : Value) (n : Nat) (xs : List Value) (hs : a.eval s = v) (hown : w.ownsRow w0.heap.size e 1 v n xs)
    (b of pc : Nat) (u : Value) (hx : a.eval x = .slice (some ⟨b, of, none⟩) 1 pc) (hc : w.cell? ⟨b, of, none⟩ = some u) (h1 : u.oneCell' = true) (h63 : n ≤ 100000000)
    (h : ∀ v' w', w'.ownsRow w0.heap.size e 1 v' (n + 1) (xs ++ [u]) → Ex w0 w' → wpList P ops Q rest (a.put o.dst v') w') :
    wpList P ops Q (o :: rest) a w := by
  refine wpList_append_own w hgd s x t ho w0.heap.size e i z 1 bytes ht hi hz hsize hby hzs (by omega) v n xs hs hown ⟨b, of, none⟩ 1 pc [u] hx rfl ?_ (fun q hq => by rw [List.mem_singleton.1 hq]; exact h1) (by unfold maxLen; omega) (by
    have : (n + 1) * bytes ≤ 100000001 * 64 := Nat.mul_le_mul (by omega) hb64
    omega) hE.size fun v' w' h2 h3 _ => h v' w' h2 (ex_grow hE h3 (row_own hown))
  intro j q hq
  match j, hq with
  | 0, hq => simp at hq; subst hq; rw [Go.WideShapes.add_plain]; exact hc

theorem rows_join {f : TM} {v : Value} {base : Nat} {R : ByteArray} {w : World} (hn : tlen f ≤ 1048576) (ho : w.ownsRow base 9 1 v (tlen f) ((rowTs f (tlen f)).map Value.string)) (hR : ⟨(Lib.join ((rowTs f (tlen f)).map (·.data.toList)) [59]).toArray⟩ = R) (hlen : (Lib.join ((rowTs f (tlen f)).map (·.data.toList)) [59]).length ≤ 140737488355328) :
    Calls Tryz.prog 86 #[v, .string ⟨#[59]⟩] w fun e w' => e = .returned (.string R) ∧ Ex w w' := by
  obtain ⟨_, ⟨rfl, h0⟩ | ⟨g, cap, cur, rfl, hb, hg, hnc, hcm, hcs, htk⟩⟩ := id ho
  · refine (Tryz.strings_Join_none none 0 _ w).mono ?_
    rintro e w' ⟨rfl, rfl⟩
    refine ⟨ret_s ?_, Ex.refl _⟩
    rw [← hR, h0]
    rfl
  · have hl := rowTs_len f (tlen f)
    have hgl : g < w.heap.size := by
      rcases Nat.lt_or_ge g w.heap.size with h' | h'
      · exact h'
      · simp [Array.getElem?_eq_none h'] at hg
    have hj := Tryz.strings_Join g 0 cap (rowTs f (tlen f)) ⟨#[59]⟩ w (fun j x hx => by
      have hjl : j < (rowTs f (tlen f)).length := by
        rcases Nat.lt_or_ge j (rowTs f (tlen f)).length with h | h
        · exact h
        · rw [List.getElem?_eq_none h] at hx; cases hx
      rw [World.ownsRow.cellAt ho (0 + j) (by omega)]
      rw [Nat.zero_add, List.getElem?_map, hx]; rfl) hgl (by omega) (by omega) hlen
    rw [hl] at hj
    refine hj.mono ?_
    rintro e w' ⟨rfl, hx⟩
    exact ⟨ret_s hR, hx⟩

set_option maxRecDepth 100000 in
set_option maxHeartbeats 4000000 in
theorem termsText_any (f : TM) (a : Option Addr) (c : Nat) (w : World) (h : TOk 8 f) (hz : tW f ≤ 1048576) (hM : MA w 0 f a) (ht : Tab w) :
    Calls Tryz.prog 67 #[.slice a (tlen f) c] w fun e w' => e = .returned (.string (rowsX f)) ∧ Ex w w' := by
  have M : Hid (∀ w', Ex w w' → MA w' 0 f a) := fun _ h => MA_below hM h
  have HK : Hid (∀ j, j < tlen f → ∀ (pa' : Option Addr) (pc' : Nat) (a' : Option Addr) (c' : Nat) (w' : World), Ex w w' → PA w' 0 (tpath f j) pa' → MA w' 0 (tkid f j) a' → Calls Tryz.prog 85 #[.agg #[.int .i64 (tkind f j), .int .i64 (tnum f j), .string (tname f j), .slice pa' (tpath f j).length pc', .slice a' (tlen (tkid f j)) c']] w' fun e w'' => e = .returned (.string (kidX 8 f j)) ∧ Ex w' w'') := fun j hj pa' pc' a' c' w' hx q1 q2 =>
    termText_any 8 _ _ _ _ pa' pc' _ a' c' w' (h j hj) (Nat.le_trans (tW_kid hj) hz) (by have := tWk_le hj; have e2 : tWk f j = (tname f j).size + (tpath f j).length + tW (tkid f j) := rfl; omega) q1 q2 (ht.ex hx)
  have SZ : Hid (∀ j, j < tlen f → (kidX 8 f j).size ≤ 10000000) := fun j hj => kidX_size h hz hj
  have hln : tlen f ≤ 1048576 := by rw [tW_sum] at hz; omega
  have HL : Hid ((Lib.join ((rowTs f (tlen f)).map (·.data.toList)) [59]).length ≤ 140737488355328) := by
    show _ ≤ _
    rw [join_rows]
    have := rowsX_size h
    have e : (upX (rowX f) (tlen f)).data.toList.length = (rowsX f).size := Array.length_toList
    omega
  have HJ : Hid (⟨(Lib.join ((rowTs f (tlen f)).map (·.data.toList)) [59]).toArray⟩ = rowsX f) := join_rowsX f
  obtain ⟨i0, hi, hz0, hz1, hz2⟩ := info_parts infoText
  generalize rowsX f = R at HJ ⊢
  clear h hz hM ht
  go_enter Tryz.func67, Tryz.ntmps67
  go_wp2_with fail
  go_loopw [3, 5, 8] (fun ov _ i wr => ∃ (j : Nat), j ≤ tlen f ∧ i = .int .i64 j ∧ wr.ownsRow w.heap.size 9 1 ov j ((rowTs f j).map Value.string) ∧ Ex w wr) (fun _ _ i _ => tlen f - (intOf i).toNat)
  case atStart => exact ⟨0, by omega, rfl, World.ownsRow_nil _ _ _ _, Ex.refl _⟩
  case round =>
    obtain ⟨j, hj, rfl, hown, hx⟩ := hrel
    have E : Hid (Ex w wr) := hx
    have O : Hid _ := hown
    clear hx
    by_cases hlt : j < tlen f
    · obtain ⟨b, o, rfl, _, hbs, hk⟩ := MA_at (M.out wr E.out) (by omega)
      obtain ⟨e0, e1, e2, ⟨pa', pc', e3, hp'⟩, a', c', e4, hm'⟩ := hk j hlt
      have HI : Hid _ := HK.out j hlt pa' pc' a' c' (wr.alloc (.cells #[.int .i64 (tkind f j), .int .i64 (tnum f j), .string (tname f j), .slice pa' (tpath f j).length pc', .slice a' (tlen (tkid f j)) c'] 121)) (E.out.trans (Ex.new _ _)) (PA_below (PS_pa.1 hp'.1) (Ex.new _ _)) (MA_below hm' (Ex.new _ _))
      have hs := SZ.out j hlt
      have HU : Hid ((rowTs f (j + 1)).map Value.string = (rowTs f j).map Value.string ++ [Value.string (⟨#[32]⟩ ++ kidX 8 f j)]) := by show _ = _; rw [rowTs_succ, List.map_append]; rfl
      generalize kidX 8 f j = x at hs HU HI
      have n1 : ¬ 9223372036854775807 < 1 + x.size := by omega
      obtain ⟨av, ac, rfl, _⟩ := own_texts hown (by rw [rowTs_len])
      rw [rowTs_len] at *
      clear hk hp' hm' hs hown
      go_wp2_with fail
      refine Calls.mono HI.out ?_
      rintro e w2 ⟨rfl, hb2⟩
      have E1 : Hid (Ex w w2) := E.out.trans ((Ex.new _ _).trans hb2)
      have O2 : Hid _ := row_ex O.out ((Ex.new _ _).trans hb2)
      have O3 : Hid ((w2.alloc (.cells #[.string (⟨#[32]⟩ ++ x)] 9)).ownsRow w.heap.size 9 1 (.slice av j ac) j ((rowTs f j).map Value.string)) := row_ex O2.out (Ex.new _ _)
      have E2 : Hid (Ex w (w2.alloc (.cells #[.string (⟨#[32]⟩ ++ x)] 9))) := E1.out.trans (Ex.new _ _)
      have C2 : Hid ((w2.alloc (.cells #[.string (⟨#[32]⟩ ++ x)] 9)).cell? ⟨w2.heap.size, 0, none⟩ = some (.string (⟨#[32]⟩ ++ x))) := World.cell?_alloc_new _ _ _ _
      have j6 : j ≤ 100000000 := by omega
      clear hb2 HI O O2
      go_wp2_with (at_builtin; refine wpList_append_one rfl _ _ 40 rfl w E2.out 9 i0 (.string ⟨#[]⟩) 16 Tryz.underlying40 hi hz0 hz1 hz2 rfl (by decide) (.slice av j ac) j ((rowTs f j).map Value.string) rfl O3.out w2.heap.size 0 1 (.string (⟨#[32]⟩ ++ x)) rfl C2.out rfl j6 ?_)
      intro v3 w3 hown3 hx3
      have O4 : Hid (w3.ownsRow w.heap.size 9 1 v3 (j + 1) ((rowTs f (j + 1)).map Value.string)) := by show World.ownsRow _ _ _ _ _ _ _; rw [HU.out]; exact hown3
      have E3 : Hid (Ex w w3) := hx3
      clear hown3 hx3 O3 E2 C2
      go_wp2_with fail
      go_roundw
      case rel => exact ⟨j + 1, by omega, by go_num, O4.out, E3.out⟩
      case measure => simp [intOf]; omega
    · have hje : j = tlen f := by omega
      subst hje
      have HJ3 : Hid _ := rows_join hln hown HJ.out HL.out
      obtain ⟨av, ac, rfl, _⟩ := own_texts hown (by rw [rowTs_len])
      rw [rowTs_len] at *
      clear hown
      go_wp2_with fail
      refine Calls.mono HJ3.out ?_
      rintro e w2 ⟨rfl, hb2⟩
      go_wp2_with fail
      go_ret
      exact ⟨rfl, E.out.trans hb2⟩

end Go.Proofs.YtldbmlojgakieaaGreatDoor
