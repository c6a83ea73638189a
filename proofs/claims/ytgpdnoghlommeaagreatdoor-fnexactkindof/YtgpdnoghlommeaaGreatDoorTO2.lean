/- Walks: bindings, bodies and functions of the laws turned into the program's. -/
import Derived.Test.YtgpdnoghlommeaaGreatDoorGTO1


namespace Go.Proofs.YtgpdnoghlommeaaGreatDoor

open Go.RowKit Go.Deep

attribute [local go_sem ↓] Go.wp_at_zero Go.wp_at_succ

theorem BT8_of {w w' : World} {S : Nat → Prop} {f : BD} {i b o : Nat} (hc : ∀ q v, q < 8 → w.cell? ⟨b, o + q, none⟩ = some v → w'.cell? ⟨b, o + q, none⟩ = some v) (hk : Ks S w w') (h : BT8 w S f i b o) : BT8 w' S f i b o := by
  obtain ⟨h0, ⟨a1, c1, h1, x1⟩, h2, ⟨a3, c3, h3, x3⟩, ⟨a4, c4, h4, x4⟩, ⟨a5, c5, h5, x5⟩, ⟨a6, c6, h6, x6⟩, ⟨a7, c7, h7, x7⟩⟩ := h
  exact ⟨hc 0 _ (by omega) h0, ⟨a1, c1, hc 1 _ (by omega) h1, x1.1, XS_ks x1.2 hk⟩, hc 2 _ (by omega) h2, ⟨a3, c3, hc 3 _ (by omega) h3, MS_ks x3 hk⟩, ⟨a4, c4, hc 4 _ (by omega) h4, BS_ks x4 hk⟩, ⟨a5, c5, hc 5 _ (by omega) h5, MS_ks x5 hk⟩, ⟨a6, c6, hc 6 _ (by omega) h6, BS_ks x6 hk⟩, ⟨a7, c7, hc 7 _ (by omega) h7, MS_ks x7 hk⟩⟩
theorem BT8_mono {w : World} {S S' : Nat → Prop} (hl : ∀ b, b < w.heap.size → S b → S' b) {f : BD} {i b o : Nat} (h : BT8 w S f i b o) : BT8 w S' f i b o := by
  obtain ⟨h0, ⟨a1, c1, h1, x1⟩, h2, ⟨a3, c3, h3, x3⟩, ⟨a4, c4, h4, x4⟩, ⟨a5, c5, h5, x5⟩, ⟨a6, c6, h6, x6⟩, ⟨a7, c7, h7, x7⟩⟩ := h
  exact ⟨h0, ⟨a1, c1, h1, x1.1, XS_mono x1.2 hl⟩, h2, ⟨a3, c3, h3, MS_mono x3 hl⟩, ⟨a4, c4, h4, BS_mono x4 hl⟩, ⟨a5, c5, h5, MS_mono x5 hl⟩, ⟨a6, c6, h6, BS_mono x6 hl⟩, ⟨a7, c7, h7, MS_mono x7 hl⟩⟩
theorem PT_of {w w' : World} {S : Nat → Prop} {f : PM} {b o : Nat} (hc : ∀ q v, q < 4 → w.cell? ⟨b, o + q, none⟩ = some v → w'.cell? ⟨b, o + q, none⟩ = some v) (hk : Ks S w w') (h : PT w S f b o) : PT w' S f b o := by
  obtain ⟨h0, ⟨a1, c1, h1, x1⟩, ⟨a2, c2, h2, x2⟩, ⟨a3, c3, h3, x3⟩⟩ := h
  exact ⟨hc 0 _ (by omega) h0, ⟨a1, c1, hc 1 _ (by omega) h1, x1.1, XS_ks x1.2 hk⟩, ⟨a2, c2, hc 2 _ (by omega) h2, BS_ks x2 hk⟩, ⟨a3, c3, hc 3 _ (by omega) h3, MS_ks x3 hk⟩⟩

theorem Tryz.info102 : (Tryz.prog.info? 102).map (fun i => (i.zero, i.size, i.bytes)) = some (some (.agg #[.int .i64 0, .slice none 0 0, .string ⟨#[]⟩, .slice none 0 0, .slice none 0 0, .slice none 0 0, .slice none 0 0, .slice none 0 0]), 8, 168) := by kernel_rfl

set_option maxRecDepth 100000 in
set_option maxHeartbeats 4000000 in
theorem toBindS_by (f : BD) (a : Option Addr) (c : Nat) (w : World) (hl : blen f ≤ 1000000000) (hT : BA w 0 f a)
    (hK : ∀ j, j < blen f → ∀ (a1 : Option Addr) (k1 : Nat) (a3 : Option Addr) (k3 : Nat) (a4 : Option Addr) (k4 : Nat) (a5 : Option Addr) (k5 : Nat) (a6 : Option Addr) (k6 : Nat) (a7 : Option Addr) (k7 : Nat) (w' : World), Ex w w' → XA w' 0 (bnames f j) a1 → MA w' 0 (bterms f j) a3 → BA w' 0 (bthen f j) a4 → MA w' 0 (btsay f j) a5 → BA w' 0 (belse f j) a6 → MA w' 0 (besay f j) a7 → Calls Tryz.prog 108 #[.agg #[.int .i64 (bkind f j), .slice a1 (bnames f j).length k1, .string (bfn f j), .slice a3 (tlen (bterms f j)) k3, .slice a4 (blen (bthen f j)) k4, .slice a5 (tlen (btsay f j)) k5, .slice a6 (blen (belse f j)) k6, .slice a7 (tlen (besay f j)) k7]] w' fun e w'' => ∃ u1 u3 u4 u5 u6 u7, e = .returned (.agg #[.int .i64 (bkind f j), .slice u1 (bnames f j).length (bnames f j).length, .string (bfn f j), .slice u3 (tlen (bterms f j)) (tlen (bterms f j)), .slice u4 (blen (bthen f j)) (blen (bthen f j)), .slice u5 (tlen (btsay f j)) (tlen (btsay f j)), .slice u6 (blen (belse f j)) (blen (belse f j)), .slice u7 (tlen (besay f j)) (tlen (besay f j))]) ∧ XA w'' w'.heap.size (bnames f j) u1 ∧ MA w'' w'.heap.size (bterms f j) u3 ∧ BA w'' w'.heap.size (bthen f j) u4 ∧ MA w'' w'.heap.size (btsay f j) u5 ∧ BA w'' w'.heap.size (belse f j) u6 ∧ MA w'' w'.heap.size (besay f j) u7 ∧ Ex w' w'') :
    Calls Tryz.prog 80 #[.slice a (blen f) c] w fun e w' => ∃ a', e = .returned (.slice a' (blen f) (blen f)) ∧ BA w' w.heap.size f a' ∧ Ex w w' := by
  have T : Hid (∀ w', Ex w w' → BA w' 0 f a) := fun _ h => BA_below hT h
  have I : Hid _ := hK
  clear hT hK
  obtain ⟨i0, hi, hz0, hz1, hz2⟩ := info_parts Tryz.info102
  have hmk : ∀ w : World, (Instr.makeSlice 56 (.int .i64 (blen f : Int)) (.int .i64 (blen f : Int))).run Tryz.prog w = .ok (.slice (some ⟨w.heap.size, 0, none⟩) (blen f) (blen f)) (w.alloc (.cells (madeCells #[.int .i64 0, .slice none 0 0, .string ⟨#[]⟩, .slice none 0 0, .slice none 0 0, .slice none 0 0, .slice none 0 0, .slice none 0 0] (blen f * 8)) 102)) := fun w => by
    have := run_make (P := Tryz.prog) w 56 102 i0 _ Tryz.underlying56 hi hz0 .i64 .i64 (blen f : Int) (blen f : Int) (by omega) (by omega) (by rw [hz2]; omega) (by omega)
    rw [hz1] at this
    simpa [Value.cells] using this
  clear hz0 hz1 hz2 hi
  go_enter Tryz.func80, Tryz.ntmps80
  go_wp2_with fail
  go_loopw [4] (fun i wr => ∃ (k : Nat) (cur : Array Value), k ≤ blen f ∧ i = .int .i64 k ∧ Ex w wr ∧ wr.heap[w.heap.size]? = some (.cells cur 102 (0, 0)) ∧ cur.size = blen f * 8 ∧ (∀ j, j < k → BT8 wr (fun b => w.heap.size < b) f j w.heap.size (0 + j * 8))) (fun i _ => blen f - (intOf i).toNat)
  case atStart => exact ⟨0, madeCells #[.int .i64 0, .slice none 0 0, .string ⟨#[]⟩, .slice none 0 0, .slice none 0 0, .slice none 0 0, .slice none 0 0, .slice none 0 0] (blen f * 8), Nat.zero_le _, rfl, Ex.new _ _, heap_alloc_new _ _, size_madeCells _ _, fun j hj => by omega⟩
  case round =>
    obtain ⟨j, cur, hk, rfl, hx, hob, hcs, hkids⟩ := hrel
    have KI : Hid _ := hkids
    have HCS : Hid (cur.size = blen f * 8) := hcs
    have X : Hid (Ex w wr) := hx
    have OB : Hid (wr.heap[w.heap.size]? = some (.cells cur 102 (0, 0))) := hob
    clear hkids hcs hx hob
    by_cases hlt : j < blen f
    · obtain ⟨b, o, rfl, _, hbs, hkk⟩ := BA_at (T.out wr X.out) (by omega)
      obtain ⟨b0, ⟨a1, k1, b1, hnc, x1⟩, b2, ⟨a3, k3, b3, x3⟩, ⟨a4, k4, b4, x4⟩, ⟨a5, k5, b5, x5⟩, ⟨a6, k6, b6, x6⟩, ⟨a7, k7, b7, x7⟩⟩ := hkk j hlt
      have HI : Hid _ := I.out j hlt a1 k1 a3 k3 a4 k4 a5 k5 a6 k6 a7 k7 wr X.out x1 x3 x4 x5 x6 x7
      clear hk hkk hnc x1 x3 x4 x5 x6 x7
      go_wp2_with fail
      refine Calls.mono HI.out ?_
      rintro e w1 ⟨u1, u3, u4, u5, u6, u7, rfl, y1, y3, y4, y5, y6, y7, hb1⟩
      have hob1 := hb1.blk OB.out
      have cc0 : w1.cell? ⟨w.heap.size, j * 8, none⟩ = some (cur[j * 8]'(by have := HCS.out; omega)) := by simp [World.cell?, hob1]
      have cc1 : w1.cell? ⟨w.heap.size, j * 8 + 1, none⟩ = some (cur[j * 8 + 1]'(by have := HCS.out; omega)) := by simp [World.cell?, hob1]
      have cc2 : w1.cell? ⟨w.heap.size, j * 8 + 2, none⟩ = some (cur[j * 8 + 2]'(by have := HCS.out; omega)) := by simp [World.cell?, hob1]
      have cc3 : w1.cell? ⟨w.heap.size, j * 8 + 3, none⟩ = some (cur[j * 8 + 3]'(by have := HCS.out; omega)) := by simp [World.cell?, hob1]
      have cc4 : w1.cell? ⟨w.heap.size, j * 8 + 4, none⟩ = some (cur[j * 8 + 4]'(by have := HCS.out; omega)) := by simp [World.cell?, hob1]
      have cc5 : w1.cell? ⟨w.heap.size, j * 8 + 5, none⟩ = some (cur[j * 8 + 5]'(by have := HCS.out; omega)) := by simp [World.cell?, hob1]
      have cc6 : w1.cell? ⟨w.heap.size, j * 8 + 6, none⟩ = some (cur[j * 8 + 6]'(by have := HCS.out; omega)) := by simp [World.cell?, hob1]
      have cc7 : w1.cell? ⟨w.heap.size, j * 8 + 7, none⟩ = some (cur[j * 8 + 7]'(by have := HCS.out; omega)) := by simp [World.cell?, hob1]
      have cf0 : w1.frozen? ⟨w.heap.size, j * 8, none⟩ = false := by simp [World.frozen?, hob1]
      have cf1 : w1.frozen? ⟨w.heap.size, j * 8 + 1, none⟩ = false := by simp [World.frozen?, hob1]
      have cf2 : w1.frozen? ⟨w.heap.size, j * 8 + 2, none⟩ = false := by simp [World.frozen?, hob1]
      have cf3 : w1.frozen? ⟨w.heap.size, j * 8 + 3, none⟩ = false := by simp [World.frozen?, hob1]
      have cf4 : w1.frozen? ⟨w.heap.size, j * 8 + 4, none⟩ = false := by simp [World.frozen?, hob1]
      have cf5 : w1.frozen? ⟨w.heap.size, j * 8 + 5, none⟩ = false := by simp [World.frozen?, hob1]
      have cf6 : w1.frozen? ⟨w.heap.size, j * 8 + 6, none⟩ = false := by simp [World.frozen?, hob1]
      have cf7 : w1.frozen? ⟨w.heap.size, j * 8 + 7, none⟩ = false := by simp [World.frozen?, hob1]
      have zr : w.heap.size < wr.heap.size := lt_of_block OB.out
      have B1 : Hid _ := hb1
      have OB1 : Hid _ := hob1
      have Y1 : Hid (XA w1 wr.heap.size (bnames f j) u1) := y1
      have Y3 : Hid (MA w1 wr.heap.size (bterms f j) u3) := y3
      have Y4 : Hid (BA w1 wr.heap.size (bthen f j) u4) := y4
      have Y5 : Hid (MA w1 wr.heap.size (btsay f j) u5) := y5
      have Y6 : Hid (BA w1 wr.heap.size (belse f j) u6) := y6
      have Y7 : Hid (MA w1 wr.heap.size (besay f j) u7) := y7
      clear y1 y3 y4 y5 y6 y7
      clear hob1 hb1 HI
      go_wp2_with fail
      go_roundw
      case rel =>
        have hb1 := B1.out
        have hob1 := OB1.out
        have hQ : Ks (fun b => w.heap.size < b) w1 (setL w1 w.heap.size (j * 8) [.int .i64 (bkind f j), .slice u1 (bnames f j).length (bnames f j).length, .string (bfn f j), .slice u3 (tlen (bterms f j)) (tlen (bterms f j)), .slice u4 (blen (bthen f j)) (blen (bthen f j)), .slice u5 (tlen (btsay f j)) (tlen (btsay f j)), .slice u6 (blen (belse f j)) (blen (belse f j)), .slice u7 (tlen (besay f j)) (tlen (besay f j))]) := fun b hb _ => setL_other _ (by have : w.heap.size < b := hb; omega)
        refine ⟨j + 1, setA cur (j * 8) [.int .i64 (bkind f j), .slice u1 (bnames f j).length (bnames f j).length, .string (bfn f j), .slice u3 (tlen (bterms f j)) (tlen (bterms f j)), .slice u4 (blen (bthen f j)) (blen (bthen f j)), .slice u5 (tlen (btsay f j)) (tlen (btsay f j)), .slice u6 (blen (belse f j)) (blen (belse f j)), .slice u7 (tlen (besay f j)) (tlen (besay f j))], by omega, by go_num, setL_ex [.int .i64 (bkind f j), .slice u1 (bnames f j).length (bnames f j).length, .string (bfn f j), .slice u3 (tlen (bterms f j)) (tlen (bterms f j)), .slice u4 (blen (bthen f j)) (blen (bthen f j)), .slice u5 (tlen (btsay f j)) (tlen (btsay f j)), .slice u6 (blen (belse f j)) (blen (belse f j)), .slice u7 (tlen (besay f j)) (tlen (besay f j))] (X.out.trans hb1) (Nat.le_refl _), setL_blk [.int .i64 (bkind f j), .slice u1 (bnames f j).length (bnames f j).length, .string (bfn f j), .slice u3 (tlen (bterms f j)) (tlen (bterms f j)), .slice u4 (blen (bthen f j)) (blen (bthen f j)), .slice u5 (tlen (btsay f j)) (tlen (btsay f j)), .slice u6 (blen (belse f j)) (blen (belse f j)), .slice u7 (tlen (besay f j)) (tlen (besay f j))] hob1, by rw [setA_size]; exact HCS.out, fun i hi => ?_⟩
        show BT8 (setL w1 w.heap.size (j * 8) [.int .i64 (bkind f j), .slice u1 (bnames f j).length (bnames f j).length, .string (bfn f j), .slice u3 (tlen (bterms f j)) (tlen (bterms f j)), .slice u4 (blen (bthen f j)) (blen (bthen f j)), .slice u5 (tlen (btsay f j)) (tlen (btsay f j)), .slice u6 (blen (belse f j)) (blen (belse f j)), .slice u7 (tlen (besay f j)) (tlen (besay f j))]) (fun b => w.heap.size < b) f i w.heap.size (0 + i * 8)
        have hbk := setL_blk (o := j * 8) [.int .i64 (bkind f j), .slice u1 (bnames f j).length (bnames f j).length, .string (bfn f j), .slice u3 (tlen (bterms f j)) (tlen (bterms f j)), .slice u4 (blen (bthen f j)) (blen (bthen f j)), .slice u5 (tlen (btsay f j)) (tlen (btsay f j)), .slice u6 (blen (belse f j)) (blen (belse f j)), .slice u7 (tlen (besay f j)) (tlen (besay f j))] hob1
        by_cases hj' : i < j
        · have h1 := BT8_of (w' := w1) (fun q v _ hv => Ex.at hb1 hv) (fun b _ hlt' => hb1.block b hlt') (KI.out i hj')
          exact BT8_of (fun q v hq hv => by rw [blk_cell hbk, setA_out _ _ _ _ (Or.inl (by omega)), ← blk_cell hob1]; exact hv) hQ h1
        · have e : j = i := by omega
          subst e
          have hsz := HCS.out
          have hc : ∀ q v, ([.int .i64 (bkind f j), .slice u1 (bnames f j).length (bnames f j).length, .string (bfn f j), .slice u3 (tlen (bterms f j)) (tlen (bterms f j)), .slice u4 (blen (bthen f j)) (blen (bthen f j)), .slice u5 (tlen (btsay f j)) (tlen (btsay f j)), .slice u6 (blen (belse f j)) (blen (belse f j)), .slice u7 (tlen (besay f j)) (tlen (besay f j))] : List Value)[q]? = some v → (setL w1 w.heap.size (j * 8) [.int .i64 (bkind f j), .slice u1 (bnames f j).length (bnames f j).length, .string (bfn f j), .slice u3 (tlen (bterms f j)) (tlen (bterms f j)), .slice u4 (blen (bthen f j)) (blen (bthen f j)), .slice u5 (tlen (btsay f j)) (tlen (btsay f j)), .slice u6 (blen (belse f j)) (blen (belse f j)), .slice u7 (tlen (besay f j)) (tlen (besay f j))]).cell? ⟨w.heap.size, 0 + j * 8 + q, none⟩ = some v := fun q v hq => by
            have hql : q < 8 := by
              rcases Nat.lt_or_ge q 8 with h | h
              · exact h
              · rw [List.getElem?_eq_none (by simpa using h)] at hq; cases hq
            rw [blk_cell hbk, Nat.zero_add]
            exact setA_in _ _ _ _ _ hq (by omega)
          exact ⟨hc 0 _ rfl, ⟨u1, _, hc 1 _ rfl, Nat.le_refl _, XS_ks (XS_mono Y1.out fun b _ hb => by have : wr.heap.size ≤ b := hb; show w.heap.size < b; omega) hQ⟩, hc 2 _ rfl, ⟨u3, _, hc 3 _ rfl, MS_ks (MS_mono Y3.out fun b _ hb => by have : wr.heap.size ≤ b := hb; show w.heap.size < b; omega) hQ⟩, ⟨u4, _, hc 4 _ rfl, BS_ks (BS_mono Y4.out fun b _ hb => by have : wr.heap.size ≤ b := hb; show w.heap.size < b; omega) hQ⟩, ⟨u5, _, hc 5 _ rfl, MS_ks (MS_mono Y5.out fun b _ hb => by have : wr.heap.size ≤ b := hb; show w.heap.size < b; omega) hQ⟩, ⟨u6, _, hc 6 _ rfl, BS_ks (BS_mono Y6.out fun b _ hb => by have : wr.heap.size ≤ b := hb; show w.heap.size < b; omega) hQ⟩, ⟨u7, _, hc 7 _ rfl, MS_ks (MS_mono Y7.out fun b _ hb => by have : wr.heap.size ≤ b := hb; show w.heap.size < b; omega) hQ⟩⟩
      case measure => simp [intOf]; omega
    · have HE : Hid (∀ i, i < blen f → BT8 wr (fun b => w.heap.size < b) f i w.heap.size (0 + i * 8)) := fun i hi => KI.out i (by omega)
      clear KI
      go_wp2_with fail
      go_ret
      exact ⟨_, rfl, BS_mk (Nat.le_refl _) fun i hi => BT8_mono (fun b _ hb => Nat.le_of_lt hb) (HE.out i hi), X.out⟩

def toBind_byP (k : Int) (nm : List ByteArray) (fn : ByteArray) (ts : TM) (tb : BD) (tz : TM) (eb : BD) (ez : TM) (w : World) (e : Ending) (w' : World) : Prop := ∃ u1 u3 u4 u5 u6 u7, e = .returned (.agg #[.int .i64 k, .slice u1 nm.length nm.length, .string fn, .slice u3 (tlen ts) (tlen ts), .slice u4 (blen tb) (blen tb), .slice u5 (tlen tz) (tlen tz), .slice u6 (blen eb) (blen eb), .slice u7 (tlen ez) (tlen ez)]) ∧ XA w' w.heap.size nm u1 ∧ MA w' w.heap.size ts u3 ∧ BA w' w.heap.size tb u4 ∧ MA w' w.heap.size tz u5 ∧ BA w' w.heap.size eb u6 ∧ MA w' w.heap.size ez u7 ∧ Ex w w'
set_option maxRecDepth 100000 in
set_option maxHeartbeats 4000000 in
theorem toBind_by (k : Int) (nm : List ByteArray) (a1 : Option Addr) (k1 : Nat) (fn : ByteArray) (ts : TM) (a3 : Option Addr) (k3 : Nat) (tb : BD) (a4 : Option Addr) (k4 : Nat) (tz : TM) (a5 : Option Addr) (k5 : Nat) (eb : BD) (a6 : Option Addr) (k6 : Nat) (ez : TM) (a7 : Option Addr) (k7 : Nat) (w : World) (hn : nm.length ≤ 1000000000) (hX : XA w 0 nm a1) (ht : tlen ts ≤ 1000000000) (htm : TSm ts) (hM : MA w 0 ts a3) (hT : ∀ w', Ex w w' → Calls Tryz.prog 56 #[.agg #[.slice a4 (blen tb) k4, .slice a5 (tlen tz) k5]] w' fun e w'' => ∃ v1 v2, e = .returned (.agg #[.slice v1 (blen tb) (blen tb), .slice v2 (tlen tz) (tlen tz)]) ∧ BA w'' w'.heap.size tb v1 ∧ MA w'' w'.heap.size tz v2 ∧ Ex w' w'') (hE : ∀ w', Ex w w' → Calls Tryz.prog 56 #[.agg #[.slice a6 (blen eb) k6, .slice a7 (tlen ez) k7]] w' fun e w'' => ∃ v1 v2, e = .returned (.agg #[.slice v1 (blen eb) (blen eb), .slice v2 (tlen ez) (tlen ez)]) ∧ BA w'' w'.heap.size eb v1 ∧ MA w'' w'.heap.size ez v2 ∧ Ex w' w'') :
    Calls Tryz.prog 108 #[.agg #[.int .i64 k, .slice a1 nm.length k1, .string fn, .slice a3 (tlen ts) k3, .slice a4 (blen tb) k4, .slice a5 (tlen tz) k5, .slice a6 (blen eb) k6, .slice a7 (tlen ez) k7]] w (toBind_byP k nm fn ts tb tz eb ez w) := by
  have H_hX : Hid _ := hX
  clear hX
  have H_hM : Hid _ := hM
  clear hM
  have H_hT : Hid _ := hT
  clear hT
  have H_hE : Hid _ := hE
  clear hE
  go_enter Tryz.func108, Tryz.ntmps108
  go_wp2_with fail
  have hx0 : Ex w (((w.alloc (.cells #[.int .i64 k, .slice a1 nm.length k1, .string fn, .slice a3 (tlen ts) k3, .slice a4 (blen tb) k4, .slice a5 (tlen tz) k5, .slice a6 (blen eb) k6, .slice a7 (tlen ez) k7] 159)).alloc (.cells #[.int .i64 0, .slice none 0 0, .string ⟨#[]⟩, .slice none 0 0, .slice none 0 0, .slice none 0 0, .slice none 0 0, .slice none 0 0] 102)).alloc (.cells #[.int .i64 k, .slice none 0 0, .string ⟨#[]⟩, .slice none 0 0, .slice none 0 0, .slice none 0 0, .slice none 0 0, .slice none 0 0] 102)) := ((Ex.new _ _).alloc _).alloc _
  have z0 : (((w.alloc (.cells #[.int .i64 k, .slice a1 nm.length k1, .string fn, .slice a3 (tlen ts) k3, .slice a4 (blen tb) k4, .slice a5 (tlen tz) k5, .slice a6 (blen eb) k6, .slice a7 (tlen ez) k7] 159)).alloc (.cells #[.int .i64 0, .slice none 0 0, .string ⟨#[]⟩, .slice none 0 0, .slice none 0 0, .slice none 0 0, .slice none 0 0, .slice none 0 0] 102)).alloc (.cells #[.int .i64 k, .slice none 0 0, .string ⟨#[]⟩, .slice none 0 0, .slice none 0 0, .slice none 0 0, .slice none 0 0, .slice none 0 0] 102)).heap.size = w.heap.size + 3 := by simp only [World.size_alloc]
  have hA0 : (((w.alloc (.cells #[.int .i64 k, .slice a1 nm.length k1, .string fn, .slice a3 (tlen ts) k3, .slice a4 (blen tb) k4, .slice a5 (tlen tz) k5, .slice a6 (blen eb) k6, .slice a7 (tlen ez) k7] 159)).alloc (.cells #[.int .i64 0, .slice none 0 0, .string ⟨#[]⟩, .slice none 0 0, .slice none 0 0, .slice none 0 0, .slice none 0 0, .slice none 0 0] 102)).alloc (.cells #[.int .i64 k, .slice none 0 0, .string ⟨#[]⟩, .slice none 0 0, .slice none 0 0, .slice none 0 0, .slice none 0 0, .slice none 0 0] 102)).heap[w.heap.size]? = some (.cells #[.int .i64 k, .slice a1 nm.length k1, .string fn, .slice a3 (tlen ts) k3, .slice a4 (blen tb) k4, .slice a5 (tlen tz) k5, .slice a6 (blen eb) k6, .slice a7 (tlen ez) k7] 159 (0, 0)) := (((Ex.new _ _).alloc _).blk (heap_alloc_new _ _))
  have hR0 : (((w.alloc (.cells #[.int .i64 k, .slice a1 nm.length k1, .string fn, .slice a3 (tlen ts) k3, .slice a4 (blen tb) k4, .slice a5 (tlen tz) k5, .slice a6 (blen eb) k6, .slice a7 (tlen ez) k7] 159)).alloc (.cells #[.int .i64 0, .slice none 0 0, .string ⟨#[]⟩, .slice none 0 0, .slice none 0 0, .slice none 0 0, .slice none 0 0, .slice none 0 0] 102)).alloc (.cells #[.int .i64 k, .slice none 0 0, .string ⟨#[]⟩, .slice none 0 0, .slice none 0 0, .slice none 0 0, .slice none 0 0, .slice none 0 0] 102)).heap[w.heap.size + 1]? = some (.cells #[.int .i64 0, .slice none 0 0, .string ⟨#[]⟩, .slice none 0 0, .slice none 0 0, .slice none 0 0, .slice none 0 0, .slice none 0 0] 102 (0, 0)) := ((Ex.new _ _).blk (heap_alloc_at _ _ (by simp only [World.size_alloc])))
  have hO0 : (((w.alloc (.cells #[.int .i64 k, .slice a1 nm.length k1, .string fn, .slice a3 (tlen ts) k3, .slice a4 (blen tb) k4, .slice a5 (tlen tz) k5, .slice a6 (blen eb) k6, .slice a7 (tlen ez) k7] 159)).alloc (.cells #[.int .i64 0, .slice none 0 0, .string ⟨#[]⟩, .slice none 0 0, .slice none 0 0, .slice none 0 0, .slice none 0 0, .slice none 0 0] 102)).alloc (.cells #[.int .i64 k, .slice none 0 0, .string ⟨#[]⟩, .slice none 0 0, .slice none 0 0, .slice none 0 0, .slice none 0 0, .slice none 0 0] 102)).heap[w.heap.size + 1 + 1]? = some (.cells #[.int .i64 k, .slice none 0 0, .string ⟨#[]⟩, .slice none 0 0, .slice none 0 0, .slice none 0 0, .slice none 0 0, .slice none 0 0] 102 (0, 0)) := heap_alloc_at _ _ (by simp only [World.size_alloc])
  obtain ⟨W0, hW0⟩ : ∃ W0, W0 = (((w.alloc (.cells #[.int .i64 k, .slice a1 nm.length k1, .string fn, .slice a3 (tlen ts) k3, .slice a4 (blen tb) k4, .slice a5 (tlen tz) k5, .slice a6 (blen eb) k6, .slice a7 (tlen ez) k7] 159)).alloc (.cells #[.int .i64 0, .slice none 0 0, .string ⟨#[]⟩, .slice none 0 0, .slice none 0 0, .slice none 0 0, .slice none 0 0, .slice none 0 0] 102)).alloc (.cells #[.int .i64 k, .slice none 0 0, .string ⟨#[]⟩, .slice none 0 0, .slice none 0 0, .slice none 0 0, .slice none 0 0, .slice none 0 0] 102)) := ⟨_, rfl⟩
  rw [← hW0] at hx0 z0 hA0 hR0 hO0 ⊢
  clear hW0
  have X0 : Hid (Ex w W0) := hx0
  have BA0 : Hid _ := hA0
  have BR0 : Hid _ := hR0
  have BO0 : Hid _ := hO0
  have Z0 : Hid (W0.heap.size = w.heap.size + 3) := z0
  clear hx0 hA0 hR0 hO0 z0
  refine (toTexts_any nm a1 k1 W0 hn (XA_below H_hX.out X0.out)).mono ?_
  rintro e w1 ⟨u1, rfl, y_n, hb1⟩
  have hxa1 : Ex w w1 := X0.out.trans hb1
  have hA1 := hb1.blk BA0.out
  have hR1 := hb1.blk BR0.out
  have hO1 := hb1.blk BO0.out
  have hsz1 := hb1.size
  have ca2 : w1.cell? ⟨w.heap.size, 2, none⟩ = some (.string fn) := blk_cell hA1 2
  have ca3 : w1.cell? ⟨w.heap.size, 3, none⟩ = some (.slice a3 (tlen ts) k3) := blk_cell hA1 3
  have co1 : w1.cell? ⟨w.heap.size + 1 + 1, 1, none⟩ = some (.slice none 0 0) := blk_cell hO1 1
  have co2 : w1.cell? ⟨w.heap.size + 1 + 1, 2, none⟩ = some (.string ⟨#[]⟩) := blk_cell hO1 2
  have fo1 := blk_free hO1 1
  have fo2 := blk_free hO1 2
  have qO1 : ((w1.setCell ⟨w.heap.size + 1 + 1, 1, none⟩ (.slice u1 nm.length nm.length)).setCell ⟨w.heap.size + 1 + 1, 2, none⟩ (.string fn)).heap[w.heap.size + 1 + 1]? = some (.cells #[.int .i64 k, .slice u1 nm.length nm.length, .string fn, .slice none 0 0, .slice none 0 0, .slice none 0 0, .slice none 0 0, .slice none 0 0] 102 (0, 0)) := (blk_set (blk_set hO1 (.slice u1 nm.length nm.length)) (.string fn))
  have qR1 : ((w1.setCell ⟨w.heap.size + 1 + 1, 1, none⟩ (.slice u1 nm.length nm.length)).setCell ⟨w.heap.size + 1 + 1, 2, none⟩ (.string fn)).heap[w.heap.size + 1]? = some (.cells #[.int .i64 0, .slice none 0 0, .string ⟨#[]⟩, .slice none 0 0, .slice none 0 0, .slice none 0 0, .slice none 0 0, .slice none 0 0] 102 (0, 0)) := (blk_off (blk_off hR1 (by omega) (.slice u1 nm.length nm.length)) (by omega) (.string fn))
  have qA1 : ((w1.setCell ⟨w.heap.size + 1 + 1, 1, none⟩ (.slice u1 nm.length nm.length)).setCell ⟨w.heap.size + 1 + 1, 2, none⟩ (.string fn)).heap[w.heap.size]? = some (.cells #[.int .i64 k, .slice a1 nm.length k1, .string fn, .slice a3 (tlen ts) k3, .slice a4 (blen tb) k4, .slice a5 (tlen tz) k5, .slice a6 (blen eb) k6, .slice a7 (tlen ez) k7] 159 (0, 0)) := (blk_off (blk_off hA1 (by omega) (.slice u1 nm.length nm.length)) (by omega) (.string fn))
  have qx1 : Ex w ((w1.setCell ⟨w.heap.size + 1 + 1, 1, none⟩ (.slice u1 nm.length nm.length)).setCell ⟨w.heap.size + 1 + 1, 2, none⟩ (.string fn)) := ((hxa1.set (by show w.heap.size ≤ w.heap.size + 1 + 1; omega) (.slice u1 nm.length nm.length)).set (by show w.heap.size ≤ w.heap.size + 1 + 1; omega) (.string fn))
  have qk1 : Kp (w.heap.size + 3) w1 ((w1.setCell ⟨w.heap.size + 1 + 1, 1, none⟩ (.slice u1 nm.length nm.length)).setCell ⟨w.heap.size + 1 + 1, 2, none⟩ (.string fn)) := (((Kp.refl (w.heap.size + 3) _).set (Or.inl (by show w.heap.size + 1 + 1 < w.heap.size + 3; omega)) (.slice u1 nm.length nm.length)).set (Or.inl (by show w.heap.size + 1 + 1 < w.heap.size + 3; omega)) (.string fn))
  have yb_n1 := XA_kp (XA_lo y_n (by have := Z0.out; omega)) qk1
  have qz1 : w.heap.size + 3 ≤ ((w1.setCell ⟨w.heap.size + 1 + 1, 1, none⟩ (.slice u1 nm.length nm.length)).setCell ⟨w.heap.size + 1 + 1, 2, none⟩ (.string fn)).heap.size := by (try simp only [World.size_setCell]); have := Z0.out; omega
  obtain ⟨W1, hW1⟩ : ∃ W, W = ((w1.setCell ⟨w.heap.size + 1 + 1, 1, none⟩ (.slice u1 nm.length nm.length)).setCell ⟨w.heap.size + 1 + 1, 2, none⟩ (.string fn)) := ⟨_, rfl⟩
  rw [← hW1] at qO1 qR1 qA1 qx1 qz1 yb_n1
  have X1 : Hid (Ex w W1) := qx1
  have BA1 : Hid _ := qA1
  have BR1 : Hid _ := qR1
  have BO1 : Hid _ := qO1
  have Z1 : Hid (w.heap.size + 3 ≤ W1.heap.size) := qz1
  have HW1 : Hid (W1 = ((w1.setCell ⟨w.heap.size + 1 + 1, 1, none⟩ (.slice u1 nm.length nm.length)).setCell ⟨w.heap.size + 1 + 1, 2, none⟩ (.string fn))) := hW1
  skip
  have M_n : Hid _ := yb_n1
  clear hW1 qO1 qR1 qA1 qx1 qz1 qk1 hxa1 hA1 hR1 hO1 hsz1 hb1 BA0 BR0 BO0 X0 Z0 yb_n1  y_n
  go_wp2_with fail
  rw [← HW1.out]
  clear HW1 ca2 ca3 co1 co2 fo1 fo2
  refine (toTermS_any ts a3 k3 W1 ht htm (MA_below H_hM.out X1.out)).mono ?_
  rintro e w2 ⟨u3, rfl, y_t, hb2⟩
  have hxa2 : Ex w w2 := X1.out.trans hb2
  have hA2 := hb2.blk BA1.out
  have hR2 := hb2.blk BR1.out
  have hO2 := hb2.blk BO1.out
  have hsz2 := hb2.size
  have ya_n2 := XA_below M_n.out hb2
  have ca4 : w2.cell? ⟨w.heap.size, 4, none⟩ = some (.slice a4 (blen tb) k4) := blk_cell hA2 4
  have ca5 : w2.cell? ⟨w.heap.size, 5, none⟩ = some (.slice a5 (tlen tz) k5) := blk_cell hA2 5
  have co3 : w2.cell? ⟨w.heap.size + 1 + 1, 3, none⟩ = some (.slice none 0 0) := blk_cell hO2 3
  have fo3 := blk_free hO2 3
  have qO2 : (w2.setCell ⟨w.heap.size + 1 + 1, 3, none⟩ (.slice u3 (tlen ts) (tlen ts))).heap[w.heap.size + 1 + 1]? = some (.cells #[.int .i64 k, .slice u1 nm.length nm.length, .string fn, .slice u3 (tlen ts) (tlen ts), .slice none 0 0, .slice none 0 0, .slice none 0 0, .slice none 0 0] 102 (0, 0)) := (blk_set hO2 (.slice u3 (tlen ts) (tlen ts)))
  have qR2 : (w2.setCell ⟨w.heap.size + 1 + 1, 3, none⟩ (.slice u3 (tlen ts) (tlen ts))).heap[w.heap.size + 1]? = some (.cells #[.int .i64 0, .slice none 0 0, .string ⟨#[]⟩, .slice none 0 0, .slice none 0 0, .slice none 0 0, .slice none 0 0, .slice none 0 0] 102 (0, 0)) := (blk_off hR2 (by omega) (.slice u3 (tlen ts) (tlen ts)))
  have qA2 : (w2.setCell ⟨w.heap.size + 1 + 1, 3, none⟩ (.slice u3 (tlen ts) (tlen ts))).heap[w.heap.size]? = some (.cells #[.int .i64 k, .slice a1 nm.length k1, .string fn, .slice a3 (tlen ts) k3, .slice a4 (blen tb) k4, .slice a5 (tlen tz) k5, .slice a6 (blen eb) k6, .slice a7 (tlen ez) k7] 159 (0, 0)) := (blk_off hA2 (by omega) (.slice u3 (tlen ts) (tlen ts)))
  have qx2 : Ex w (w2.setCell ⟨w.heap.size + 1 + 1, 3, none⟩ (.slice u3 (tlen ts) (tlen ts))) := (hxa2.set (by show w.heap.size ≤ w.heap.size + 1 + 1; omega) (.slice u3 (tlen ts) (tlen ts)))
  have qk2 : Kp (w.heap.size + 3) w2 (w2.setCell ⟨w.heap.size + 1 + 1, 3, none⟩ (.slice u3 (tlen ts) (tlen ts))) := ((Kp.refl (w.heap.size + 3) _).set (Or.inl (by show w.heap.size + 1 + 1 < w.heap.size + 3; omega)) (.slice u3 (tlen ts) (tlen ts)))
  have yb_n2 := XA_kp ya_n2 qk2
  have yb_t2 := MA_kp (MA_lo y_t (by have := Z1.out; omega)) qk2
  have qz2 : w.heap.size + 3 ≤ (w2.setCell ⟨w.heap.size + 1 + 1, 3, none⟩ (.slice u3 (tlen ts) (tlen ts))).heap.size := by (try simp only [World.size_setCell]); have := Z1.out; omega
  obtain ⟨W2, hW2⟩ : ∃ W, W = (w2.setCell ⟨w.heap.size + 1 + 1, 3, none⟩ (.slice u3 (tlen ts) (tlen ts))) := ⟨_, rfl⟩
  rw [← hW2] at qO2 qR2 qA2 qx2 qz2 yb_n2 yb_t2
  have X2 : Hid (Ex w W2) := qx2
  have BA2 : Hid _ := qA2
  have BR2 : Hid _ := qR2
  have BO2 : Hid _ := qO2
  have Z2 : Hid (w.heap.size + 3 ≤ W2.heap.size) := qz2
  have HW2 : Hid (W2 = (w2.setCell ⟨w.heap.size + 1 + 1, 3, none⟩ (.slice u3 (tlen ts) (tlen ts)))) := hW2
  clear M_n
  have M_n : Hid _ := yb_n2
  have M_t : Hid _ := yb_t2
  clear hW2 qO2 qR2 qA2 qx2 qz2 qk2 hxa2 hA2 hR2 hO2 hsz2 hb2 BA1 BR1 BO1 X1 Z1 yb_n2 yb_t2 ya_n2 y_t
  go_wp2_with fail
  rw [← HW2.out]
  clear HW2 ca4 ca5 co3 fo3
  refine (H_hT.out _ X2.out).mono ?_
  rintro e w3 ⟨u4, u5, rfl, y_tb, y_tz, hb3⟩
  have hxa3 : Ex w w3 := X2.out.trans hb3
  have hA3 := hb3.blk BA2.out
  have hR3 := hb3.blk BR2.out
  have hO3 := hb3.blk BO2.out
  have hsz3 := hb3.size
  have ya_n3 := XA_below M_n.out hb3
  have ya_t3 := MA_below M_t.out hb3
  have ca6 : w3.cell? ⟨w.heap.size, 6, none⟩ = some (.slice a6 (blen eb) k6) := blk_cell hA3 6
  have ca7 : w3.cell? ⟨w.heap.size, 7, none⟩ = some (.slice a7 (tlen ez) k7) := blk_cell hA3 7
  have co4 : w3.cell? ⟨w.heap.size + 1 + 1, 4, none⟩ = some (.slice none 0 0) := blk_cell hO3 4
  have co5 : w3.cell? ⟨w.heap.size + 1 + 1, 5, none⟩ = some (.slice none 0 0) := blk_cell hO3 5
  have fo4 := blk_free hO3 4
  have fo5 := blk_free hO3 5
  have qO3 : ((w3.setCell ⟨w.heap.size + 1 + 1, 4, none⟩ (.slice u4 (blen tb) (blen tb))).setCell ⟨w.heap.size + 1 + 1, 5, none⟩ (.slice u5 (tlen tz) (tlen tz))).heap[w.heap.size + 1 + 1]? = some (.cells #[.int .i64 k, .slice u1 nm.length nm.length, .string fn, .slice u3 (tlen ts) (tlen ts), .slice u4 (blen tb) (blen tb), .slice u5 (tlen tz) (tlen tz), .slice none 0 0, .slice none 0 0] 102 (0, 0)) := (blk_set (blk_set hO3 (.slice u4 (blen tb) (blen tb))) (.slice u5 (tlen tz) (tlen tz)))
  have qR3 : ((w3.setCell ⟨w.heap.size + 1 + 1, 4, none⟩ (.slice u4 (blen tb) (blen tb))).setCell ⟨w.heap.size + 1 + 1, 5, none⟩ (.slice u5 (tlen tz) (tlen tz))).heap[w.heap.size + 1]? = some (.cells #[.int .i64 0, .slice none 0 0, .string ⟨#[]⟩, .slice none 0 0, .slice none 0 0, .slice none 0 0, .slice none 0 0, .slice none 0 0] 102 (0, 0)) := (blk_off (blk_off hR3 (by omega) (.slice u4 (blen tb) (blen tb))) (by omega) (.slice u5 (tlen tz) (tlen tz)))
  have qA3 : ((w3.setCell ⟨w.heap.size + 1 + 1, 4, none⟩ (.slice u4 (blen tb) (blen tb))).setCell ⟨w.heap.size + 1 + 1, 5, none⟩ (.slice u5 (tlen tz) (tlen tz))).heap[w.heap.size]? = some (.cells #[.int .i64 k, .slice a1 nm.length k1, .string fn, .slice a3 (tlen ts) k3, .slice a4 (blen tb) k4, .slice a5 (tlen tz) k5, .slice a6 (blen eb) k6, .slice a7 (tlen ez) k7] 159 (0, 0)) := (blk_off (blk_off hA3 (by omega) (.slice u4 (blen tb) (blen tb))) (by omega) (.slice u5 (tlen tz) (tlen tz)))
  have qx3 : Ex w ((w3.setCell ⟨w.heap.size + 1 + 1, 4, none⟩ (.slice u4 (blen tb) (blen tb))).setCell ⟨w.heap.size + 1 + 1, 5, none⟩ (.slice u5 (tlen tz) (tlen tz))) := ((hxa3.set (by show w.heap.size ≤ w.heap.size + 1 + 1; omega) (.slice u4 (blen tb) (blen tb))).set (by show w.heap.size ≤ w.heap.size + 1 + 1; omega) (.slice u5 (tlen tz) (tlen tz)))
  have qk3 : Kp (w.heap.size + 3) w3 ((w3.setCell ⟨w.heap.size + 1 + 1, 4, none⟩ (.slice u4 (blen tb) (blen tb))).setCell ⟨w.heap.size + 1 + 1, 5, none⟩ (.slice u5 (tlen tz) (tlen tz))) := (((Kp.refl (w.heap.size + 3) _).set (Or.inl (by show w.heap.size + 1 + 1 < w.heap.size + 3; omega)) (.slice u4 (blen tb) (blen tb))).set (Or.inl (by show w.heap.size + 1 + 1 < w.heap.size + 3; omega)) (.slice u5 (tlen tz) (tlen tz)))
  have yb_n3 := XA_kp ya_n3 qk3
  have yb_t3 := MA_kp ya_t3 qk3
  have yb_tb3 := BA_kp (BA_lo y_tb (by have := Z2.out; omega)) qk3
  have yb_tz3 := MA_kp (MA_lo y_tz (by have := Z2.out; omega)) qk3
  have qz3 : w.heap.size + 3 ≤ ((w3.setCell ⟨w.heap.size + 1 + 1, 4, none⟩ (.slice u4 (blen tb) (blen tb))).setCell ⟨w.heap.size + 1 + 1, 5, none⟩ (.slice u5 (tlen tz) (tlen tz))).heap.size := by (try simp only [World.size_setCell]); have := Z2.out; omega
  obtain ⟨W3, hW3⟩ : ∃ W, W = ((w3.setCell ⟨w.heap.size + 1 + 1, 4, none⟩ (.slice u4 (blen tb) (blen tb))).setCell ⟨w.heap.size + 1 + 1, 5, none⟩ (.slice u5 (tlen tz) (tlen tz))) := ⟨_, rfl⟩
  rw [← hW3] at qO3 qR3 qA3 qx3 qz3 yb_n3 yb_t3 yb_tb3 yb_tz3
  have X3 : Hid (Ex w W3) := qx3
  have BA3 : Hid _ := qA3
  have BR3 : Hid _ := qR3
  have BO3 : Hid _ := qO3
  have Z3 : Hid (w.heap.size + 3 ≤ W3.heap.size) := qz3
  have HW3 : Hid (W3 = ((w3.setCell ⟨w.heap.size + 1 + 1, 4, none⟩ (.slice u4 (blen tb) (blen tb))).setCell ⟨w.heap.size + 1 + 1, 5, none⟩ (.slice u5 (tlen tz) (tlen tz)))) := hW3
  clear M_n M_t
  have M_n : Hid _ := yb_n3
  have M_t : Hid _ := yb_t3
  have M_tb : Hid _ := yb_tb3
  have M_tz : Hid _ := yb_tz3
  clear hW3 qO3 qR3 qA3 qx3 qz3 qk3 hxa3 hA3 hR3 hO3 hsz3 hb3 BA2 BR2 BO2 X2 Z2 yb_n3 yb_t3 yb_tb3 yb_tz3 ya_n3 ya_t3 y_tb y_tz
  go_wp2_with fail
  rw [← HW3.out]
  clear HW3 ca6 ca7 co4 co5 fo4 fo5
  refine (H_hE.out _ X3.out).mono ?_
  rintro e w4 ⟨u6, u7, rfl, y_eb, y_ez, hb4⟩
  have hxa4 : Ex w w4 := X3.out.trans hb4
  have hA4 := hb4.blk BA3.out
  have hR4 := hb4.blk BR3.out
  have hO4 := hb4.blk BO3.out
  have hsz4 := hb4.size
  have ya_n4 := XA_below M_n.out hb4
  have ya_t4 := MA_below M_t.out hb4
  have ya_tb4 := BA_below M_tb.out hb4
  have ya_tz4 := MA_below M_tz.out hb4
  have co0 : w4.cell? ⟨w.heap.size + 1 + 1, 0, none⟩ = some (.int .i64 k) := blk_cell hO4 0
  have co1 : w4.cell? ⟨w.heap.size + 1 + 1, 1, none⟩ = some (.slice u1 nm.length nm.length) := blk_cell hO4 1
  have co2 : w4.cell? ⟨w.heap.size + 1 + 1, 2, none⟩ = some (.string fn) := blk_cell hO4 2
  have co3 : w4.cell? ⟨w.heap.size + 1 + 1, 3, none⟩ = some (.slice u3 (tlen ts) (tlen ts)) := blk_cell hO4 3
  have co4 : w4.cell? ⟨w.heap.size + 1 + 1, 4, none⟩ = some (.slice u4 (blen tb) (blen tb)) := blk_cell hO4 4
  have co5 : w4.cell? ⟨w.heap.size + 1 + 1, 5, none⟩ = some (.slice u5 (tlen tz) (tlen tz)) := blk_cell hO4 5
  have co6 : w4.cell? ⟨w.heap.size + 1 + 1, 6, none⟩ = some (.slice none 0 0) := blk_cell hO4 6
  have co7 : w4.cell? ⟨w.heap.size + 1 + 1, 7, none⟩ = some (.slice none 0 0) := blk_cell hO4 7
  have fo6 := blk_free hO4 6
  have fo7 := blk_free hO4 7
  have cr0 : w4.cell? ⟨w.heap.size + 1, 0, none⟩ = some (.int .i64 0) := blk_cell hR4 0
  have cr1 : w4.cell? ⟨w.heap.size + 1, 1, none⟩ = some (.slice none 0 0) := blk_cell hR4 1
  have cr2 : w4.cell? ⟨w.heap.size + 1, 2, none⟩ = some (.string ⟨#[]⟩) := blk_cell hR4 2
  have cr3 : w4.cell? ⟨w.heap.size + 1, 3, none⟩ = some (.slice none 0 0) := blk_cell hR4 3
  have cr4 : w4.cell? ⟨w.heap.size + 1, 4, none⟩ = some (.slice none 0 0) := blk_cell hR4 4
  have cr5 : w4.cell? ⟨w.heap.size + 1, 5, none⟩ = some (.slice none 0 0) := blk_cell hR4 5
  have cr6 : w4.cell? ⟨w.heap.size + 1, 6, none⟩ = some (.slice none 0 0) := blk_cell hR4 6
  have cr7 : w4.cell? ⟨w.heap.size + 1, 7, none⟩ = some (.slice none 0 0) := blk_cell hR4 7
  have fr0 := blk_free hR4 0
  have fr1 := blk_free hR4 1
  have fr2 := blk_free hR4 2
  have fr3 := blk_free hR4 3
  have fr4 := blk_free hR4 4
  have fr5 := blk_free hR4 5
  have fr6 := blk_free hR4 6
  have fr7 := blk_free hR4 7
  have qO4 : ((w4.setCell ⟨w.heap.size + 1 + 1, 6, none⟩ (.slice u6 (blen eb) (blen eb))).setCell ⟨w.heap.size + 1 + 1, 7, none⟩ (.slice u7 (tlen ez) (tlen ez))).heap[w.heap.size + 1 + 1]? = some (.cells #[.int .i64 k, .slice u1 nm.length nm.length, .string fn, .slice u3 (tlen ts) (tlen ts), .slice u4 (blen tb) (blen tb), .slice u5 (tlen tz) (tlen tz), .slice u6 (blen eb) (blen eb), .slice u7 (tlen ez) (tlen ez)] 102 (0, 0)) := (blk_set (blk_set hO4 (.slice u6 (blen eb) (blen eb))) (.slice u7 (tlen ez) (tlen ez)))
  have qR4 : ((w4.setCell ⟨w.heap.size + 1 + 1, 6, none⟩ (.slice u6 (blen eb) (blen eb))).setCell ⟨w.heap.size + 1 + 1, 7, none⟩ (.slice u7 (tlen ez) (tlen ez))).heap[w.heap.size + 1]? = some (.cells #[.int .i64 0, .slice none 0 0, .string ⟨#[]⟩, .slice none 0 0, .slice none 0 0, .slice none 0 0, .slice none 0 0, .slice none 0 0] 102 (0, 0)) := (blk_off (blk_off hR4 (by omega) (.slice u6 (blen eb) (blen eb))) (by omega) (.slice u7 (tlen ez) (tlen ez)))
  have qA4 : ((w4.setCell ⟨w.heap.size + 1 + 1, 6, none⟩ (.slice u6 (blen eb) (blen eb))).setCell ⟨w.heap.size + 1 + 1, 7, none⟩ (.slice u7 (tlen ez) (tlen ez))).heap[w.heap.size]? = some (.cells #[.int .i64 k, .slice a1 nm.length k1, .string fn, .slice a3 (tlen ts) k3, .slice a4 (blen tb) k4, .slice a5 (tlen tz) k5, .slice a6 (blen eb) k6, .slice a7 (tlen ez) k7] 159 (0, 0)) := (blk_off (blk_off hA4 (by omega) (.slice u6 (blen eb) (blen eb))) (by omega) (.slice u7 (tlen ez) (tlen ez)))
  have qx4 : Ex w ((w4.setCell ⟨w.heap.size + 1 + 1, 6, none⟩ (.slice u6 (blen eb) (blen eb))).setCell ⟨w.heap.size + 1 + 1, 7, none⟩ (.slice u7 (tlen ez) (tlen ez))) := ((hxa4.set (by show w.heap.size ≤ w.heap.size + 1 + 1; omega) (.slice u6 (blen eb) (blen eb))).set (by show w.heap.size ≤ w.heap.size + 1 + 1; omega) (.slice u7 (tlen ez) (tlen ez)))
  have qk4 : Kp (w.heap.size + 3) w4 ((w4.setCell ⟨w.heap.size + 1 + 1, 6, none⟩ (.slice u6 (blen eb) (blen eb))).setCell ⟨w.heap.size + 1 + 1, 7, none⟩ (.slice u7 (tlen ez) (tlen ez))) := (((Kp.refl (w.heap.size + 3) _).set (Or.inl (by show w.heap.size + 1 + 1 < w.heap.size + 3; omega)) (.slice u6 (blen eb) (blen eb))).set (Or.inl (by show w.heap.size + 1 + 1 < w.heap.size + 3; omega)) (.slice u7 (tlen ez) (tlen ez)))
  have yb_n4 := XA_kp ya_n4 qk4
  have yb_t4 := MA_kp ya_t4 qk4
  have yb_tb4 := BA_kp ya_tb4 qk4
  have yb_tz4 := MA_kp ya_tz4 qk4
  have yb_eb4 := BA_kp (BA_lo y_eb (by have := Z3.out; omega)) qk4
  have yb_ez4 := MA_kp (MA_lo y_ez (by have := Z3.out; omega)) qk4
  have qz4 : w.heap.size + 3 ≤ ((w4.setCell ⟨w.heap.size + 1 + 1, 6, none⟩ (.slice u6 (blen eb) (blen eb))).setCell ⟨w.heap.size + 1 + 1, 7, none⟩ (.slice u7 (tlen ez) (tlen ez))).heap.size := by (try simp only [World.size_setCell]); have := Z3.out; omega
  have qQ : (setL ((w4.setCell ⟨w.heap.size + 1 + 1, 6, none⟩ (.slice u6 (blen eb) (blen eb))).setCell ⟨w.heap.size + 1 + 1, 7, none⟩ (.slice u7 (tlen ez) (tlen ez))) (w.heap.size + 1) 0 [.int .i64 k, .slice u1 nm.length nm.length, .string fn, .slice u3 (tlen ts) (tlen ts), .slice u4 (blen tb) (blen tb), .slice u5 (tlen tz) (tlen tz), .slice u6 (blen eb) (blen eb), .slice u7 (tlen ez) (tlen ez)]).heap[w.heap.size + 1]? = some (.cells #[.int .i64 k, .slice u1 nm.length nm.length, .string fn, .slice u3 (tlen ts) (tlen ts), .slice u4 (blen tb) (blen tb), .slice u5 (tlen tz) (tlen tz), .slice u6 (blen eb) (blen eb), .slice u7 (tlen ez) (tlen ez)] 102 (0, 0)) := (setL_blk [.int .i64 k, .slice u1 nm.length nm.length, .string fn, .slice u3 (tlen ts) (tlen ts), .slice u4 (blen tb) (blen tb), .slice u5 (tlen tz) (tlen tz), .slice u6 (blen eb) (blen eb), .slice u7 (tlen ez) (tlen ez)] qR4).trans (by rw [setA_all [.int .i64 k, .slice u1 nm.length nm.length, .string fn, .slice u3 (tlen ts) (tlen ts), .slice u4 (blen tb) (blen tb), .slice u5 (tlen tz) (tlen tz), .slice u6 (blen eb) (blen eb), .slice u7 (tlen ez) (tlen ez)] #[.int .i64 0, .slice none 0 0, .string ⟨#[]⟩, .slice none 0 0, .slice none 0 0, .slice none 0 0, .slice none 0 0, .slice none 0 0] rfl])
  have rr0 : (setL ((w4.setCell ⟨w.heap.size + 1 + 1, 6, none⟩ (.slice u6 (blen eb) (blen eb))).setCell ⟨w.heap.size + 1 + 1, 7, none⟩ (.slice u7 (tlen ez) (tlen ez))) (w.heap.size + 1) 0 [.int .i64 k, .slice u1 nm.length nm.length, .string fn, .slice u3 (tlen ts) (tlen ts), .slice u4 (blen tb) (blen tb), .slice u5 (tlen tz) (tlen tz), .slice u6 (blen eb) (blen eb), .slice u7 (tlen ez) (tlen ez)]).cell? ⟨w.heap.size + 1, 0, none⟩ = some (.int .i64 k) := blk_cell qQ 0
  have rr1 : (setL ((w4.setCell ⟨w.heap.size + 1 + 1, 6, none⟩ (.slice u6 (blen eb) (blen eb))).setCell ⟨w.heap.size + 1 + 1, 7, none⟩ (.slice u7 (tlen ez) (tlen ez))) (w.heap.size + 1) 0 [.int .i64 k, .slice u1 nm.length nm.length, .string fn, .slice u3 (tlen ts) (tlen ts), .slice u4 (blen tb) (blen tb), .slice u5 (tlen tz) (tlen tz), .slice u6 (blen eb) (blen eb), .slice u7 (tlen ez) (tlen ez)]).cell? ⟨w.heap.size + 1, 1, none⟩ = some (.slice u1 nm.length nm.length) := blk_cell qQ 1
  have rr2 : (setL ((w4.setCell ⟨w.heap.size + 1 + 1, 6, none⟩ (.slice u6 (blen eb) (blen eb))).setCell ⟨w.heap.size + 1 + 1, 7, none⟩ (.slice u7 (tlen ez) (tlen ez))) (w.heap.size + 1) 0 [.int .i64 k, .slice u1 nm.length nm.length, .string fn, .slice u3 (tlen ts) (tlen ts), .slice u4 (blen tb) (blen tb), .slice u5 (tlen tz) (tlen tz), .slice u6 (blen eb) (blen eb), .slice u7 (tlen ez) (tlen ez)]).cell? ⟨w.heap.size + 1, 2, none⟩ = some (.string fn) := blk_cell qQ 2
  have rr3 : (setL ((w4.setCell ⟨w.heap.size + 1 + 1, 6, none⟩ (.slice u6 (blen eb) (blen eb))).setCell ⟨w.heap.size + 1 + 1, 7, none⟩ (.slice u7 (tlen ez) (tlen ez))) (w.heap.size + 1) 0 [.int .i64 k, .slice u1 nm.length nm.length, .string fn, .slice u3 (tlen ts) (tlen ts), .slice u4 (blen tb) (blen tb), .slice u5 (tlen tz) (tlen tz), .slice u6 (blen eb) (blen eb), .slice u7 (tlen ez) (tlen ez)]).cell? ⟨w.heap.size + 1, 3, none⟩ = some (.slice u3 (tlen ts) (tlen ts)) := blk_cell qQ 3
  have rr4 : (setL ((w4.setCell ⟨w.heap.size + 1 + 1, 6, none⟩ (.slice u6 (blen eb) (blen eb))).setCell ⟨w.heap.size + 1 + 1, 7, none⟩ (.slice u7 (tlen ez) (tlen ez))) (w.heap.size + 1) 0 [.int .i64 k, .slice u1 nm.length nm.length, .string fn, .slice u3 (tlen ts) (tlen ts), .slice u4 (blen tb) (blen tb), .slice u5 (tlen tz) (tlen tz), .slice u6 (blen eb) (blen eb), .slice u7 (tlen ez) (tlen ez)]).cell? ⟨w.heap.size + 1, 4, none⟩ = some (.slice u4 (blen tb) (blen tb)) := blk_cell qQ 4
  have rr5 : (setL ((w4.setCell ⟨w.heap.size + 1 + 1, 6, none⟩ (.slice u6 (blen eb) (blen eb))).setCell ⟨w.heap.size + 1 + 1, 7, none⟩ (.slice u7 (tlen ez) (tlen ez))) (w.heap.size + 1) 0 [.int .i64 k, .slice u1 nm.length nm.length, .string fn, .slice u3 (tlen ts) (tlen ts), .slice u4 (blen tb) (blen tb), .slice u5 (tlen tz) (tlen tz), .slice u6 (blen eb) (blen eb), .slice u7 (tlen ez) (tlen ez)]).cell? ⟨w.heap.size + 1, 5, none⟩ = some (.slice u5 (tlen tz) (tlen tz)) := blk_cell qQ 5
  have rr6 : (setL ((w4.setCell ⟨w.heap.size + 1 + 1, 6, none⟩ (.slice u6 (blen eb) (blen eb))).setCell ⟨w.heap.size + 1 + 1, 7, none⟩ (.slice u7 (tlen ez) (tlen ez))) (w.heap.size + 1) 0 [.int .i64 k, .slice u1 nm.length nm.length, .string fn, .slice u3 (tlen ts) (tlen ts), .slice u4 (blen tb) (blen tb), .slice u5 (tlen tz) (tlen tz), .slice u6 (blen eb) (blen eb), .slice u7 (tlen ez) (tlen ez)]).cell? ⟨w.heap.size + 1, 6, none⟩ = some (.slice u6 (blen eb) (blen eb)) := blk_cell qQ 6
  have rr7 : (setL ((w4.setCell ⟨w.heap.size + 1 + 1, 6, none⟩ (.slice u6 (blen eb) (blen eb))).setCell ⟨w.heap.size + 1 + 1, 7, none⟩ (.slice u7 (tlen ez) (tlen ez))) (w.heap.size + 1) 0 [.int .i64 k, .slice u1 nm.length nm.length, .string fn, .slice u3 (tlen ts) (tlen ts), .slice u4 (blen tb) (blen tb), .slice u5 (tlen tz) (tlen tz), .slice u6 (blen eb) (blen eb), .slice u7 (tlen ez) (tlen ez)]).cell? ⟨w.heap.size + 1, 7, none⟩ = some (.slice u7 (tlen ez) (tlen ez)) := blk_cell qQ 7
  have qxx : Ex w (setL ((w4.setCell ⟨w.heap.size + 1 + 1, 6, none⟩ (.slice u6 (blen eb) (blen eb))).setCell ⟨w.heap.size + 1 + 1, 7, none⟩ (.slice u7 (tlen ez) (tlen ez))) (w.heap.size + 1) 0 [.int .i64 k, .slice u1 nm.length nm.length, .string fn, .slice u3 (tlen ts) (tlen ts), .slice u4 (blen tb) (blen tb), .slice u5 (tlen tz) (tlen tz), .slice u6 (blen eb) (blen eb), .slice u7 (tlen ez) (tlen ez)]) := setL_ex [.int .i64 k, .slice u1 nm.length nm.length, .string fn, .slice u3 (tlen ts) (tlen ts), .slice u4 (blen tb) (blen tb), .slice u5 (tlen tz) (tlen tz), .slice u6 (blen eb) (blen eb), .slice u7 (tlen ez) (tlen ez)] qx4 (by omega)
  have qkk : Kp (w.heap.size + 3) ((w4.setCell ⟨w.heap.size + 1 + 1, 6, none⟩ (.slice u6 (blen eb) (blen eb))).setCell ⟨w.heap.size + 1 + 1, 7, none⟩ (.slice u7 (tlen ez) (tlen ez))) (setL ((w4.setCell ⟨w.heap.size + 1 + 1, 6, none⟩ (.slice u6 (blen eb) (blen eb))).setCell ⟨w.heap.size + 1 + 1, 7, none⟩ (.slice u7 (tlen ez) (tlen ez))) (w.heap.size + 1) 0 [.int .i64 k, .slice u1 nm.length nm.length, .string fn, .slice u3 (tlen ts) (tlen ts), .slice u4 (blen tb) (blen tb), .slice u5 (tlen tz) (tlen tz), .slice u6 (blen eb) (blen eb), .slice u7 (tlen ez) (tlen ez)]) := setL_kp [.int .i64 k, .slice u1 nm.length nm.length, .string fn, .slice u3 (tlen ts) (tlen ts), .slice u4 (blen tb) (blen tb), .slice u5 (tlen tz) (tlen tz), .slice u6 (blen eb) (blen eb), .slice u7 (tlen ez) (tlen ez)] (Kp.refl _ _) (Or.inl (by omega))
  have yc_n := XA_kp yb_n4 qkk
  have yc_t := MA_kp yb_t4 qkk
  have yc_tb := BA_kp yb_tb4 qkk
  have yc_tz := MA_kp yb_tz4 qkk
  have yc_eb := BA_kp yb_eb4 qkk
  have yc_ez := MA_kp yb_ez4 qkk
  have RR0 : Hid _ := rr0
  have RR1 : Hid _ := rr1
  have RR2 : Hid _ := rr2
  have RR3 : Hid _ := rr3
  have RR4 : Hid _ := rr4
  have RR5 : Hid _ := rr5
  have RR6 : Hid _ := rr6
  have RR7 : Hid _ := rr7
  have QX : Hid _ := qxx
  have YC_n : Hid _ := yc_n
  have YC_t : Hid _ := yc_t
  have YC_tb : Hid _ := yc_tb
  have YC_tz : Hid _ := yc_tz
  have YC_eb : Hid _ := yc_eb
  have YC_ez : Hid _ := yc_ez
  clear qQ qxx qkk qO4 qR4 qA4 qx4 qz4 qk4 hxa4 hA4 hR4 hO4 hsz4 hb4 BA3 BR3 BO3 X3 Z3 rr0 rr1 rr2 rr3 rr4 rr5 rr6 rr7 yb_n4 yc_n yb_t4 yc_t yb_tb4 yc_tb yb_tz4 yc_tz yb_eb4 yc_eb yb_ez4 yc_ez ya_n4 M_n ya_t4 M_t ya_tb4 M_tb ya_tz4 M_tz y_eb y_ez
  go_wp2_with fail
  have r0 := RR0.out
  have r1 := RR1.out
  have r2 := RR2.out
  have r3 := RR3.out
  have r4 := RR4.out
  have r5 := RR5.out
  have r6 := RR6.out
  have r7 := RR7.out
  simp only [setL, Nat.zero_add, Nat.reduceAdd] at r0 r1 r2 r3 r4 r5 r6 r7
  refine bodyPost_ret (v := .agg #[.int .i64 k, .slice u1 nm.length nm.length, .string fn, .slice u3 (tlen ts) (tlen ts), .slice u4 (blen tb) (blen tb), .slice u5 (tlen tz) (tlen tz), .slice u6 (blen eb) (blen eb), .slice u7 (tlen ez) (tlen ez)]) (by simp [results, Tryz.results108, go_sem, r0, r1, r2, r3, r4, r5, r6, r7]) rfl ?_
  exact ⟨u1, u3, u4, u5, u6, u7, rfl, XA_lo YC_n.out (by omega), MA_lo YC_t.out (by omega), BA_lo YC_tb.out (by omega), MA_lo YC_tz.out (by omega), BA_lo YC_eb.out (by omega), MA_lo YC_ez.out (by omega), QX.out⟩

def toBody_byP (b : BD) (z : TM) (w : World) (e : Ending) (w' : World) : Prop := ∃ v1 v2, e = .returned (.agg #[.slice v1 (blen b) (blen b), .slice v2 (tlen z) (tlen z)]) ∧ BA w' w.heap.size b v1 ∧ MA w' w.heap.size z v2 ∧ Ex w w'
set_option maxRecDepth 100000 in
set_option maxHeartbeats 4000000 in
theorem toBody_by (b : BD) (ba : Option Addr) (bc : Nat) (z : TM) (za : Option Addr) (zc : Nat) (w : World) (hB : ∀ w', Ex w w' → Calls Tryz.prog 80 #[.slice ba (blen b) bc] w' fun e w'' => ∃ a', e = .returned (.slice a' (blen b) (blen b)) ∧ BA w'' w'.heap.size b a' ∧ Ex w' w'') (hz : tlen z ≤ 1000000000) (hzm : TSm z) (hM : MA w 0 z za) :
    Calls Tryz.prog 56 #[.agg #[.slice ba (blen b) bc, .slice za (tlen z) zc]] w (toBody_byP b z w) := by
  have H_hB : Hid _ := hB
  clear hB
  have H_hM : Hid _ := hM
  clear hM
  go_enter Tryz.func56, Tryz.ntmps56
  go_wp2_with fail
  have hx0 : Ex w (((w.alloc (.cells #[.slice ba (blen b) bc, .slice za (tlen z) zc] 44)).alloc (.cells #[.slice none 0 0, .slice none 0 0] 59)).alloc (.cells #[.slice none 0 0, .slice none 0 0] 59)) := ((Ex.new _ _).alloc _).alloc _
  have z0 : (((w.alloc (.cells #[.slice ba (blen b) bc, .slice za (tlen z) zc] 44)).alloc (.cells #[.slice none 0 0, .slice none 0 0] 59)).alloc (.cells #[.slice none 0 0, .slice none 0 0] 59)).heap.size = w.heap.size + 3 := by simp only [World.size_alloc]
  have hA0 : (((w.alloc (.cells #[.slice ba (blen b) bc, .slice za (tlen z) zc] 44)).alloc (.cells #[.slice none 0 0, .slice none 0 0] 59)).alloc (.cells #[.slice none 0 0, .slice none 0 0] 59)).heap[w.heap.size]? = some (.cells #[.slice ba (blen b) bc, .slice za (tlen z) zc] 44 (0, 0)) := (((Ex.new _ _).alloc _).blk (heap_alloc_new _ _))
  have hR0 : (((w.alloc (.cells #[.slice ba (blen b) bc, .slice za (tlen z) zc] 44)).alloc (.cells #[.slice none 0 0, .slice none 0 0] 59)).alloc (.cells #[.slice none 0 0, .slice none 0 0] 59)).heap[w.heap.size + 1]? = some (.cells #[.slice none 0 0, .slice none 0 0] 59 (0, 0)) := ((Ex.new _ _).blk (heap_alloc_at _ _ (by simp only [World.size_alloc])))
  have hO0 : (((w.alloc (.cells #[.slice ba (blen b) bc, .slice za (tlen z) zc] 44)).alloc (.cells #[.slice none 0 0, .slice none 0 0] 59)).alloc (.cells #[.slice none 0 0, .slice none 0 0] 59)).heap[w.heap.size + 1 + 1]? = some (.cells #[.slice none 0 0, .slice none 0 0] 59 (0, 0)) := heap_alloc_at _ _ (by simp only [World.size_alloc])
  obtain ⟨W0, hW0⟩ : ∃ W0, W0 = (((w.alloc (.cells #[.slice ba (blen b) bc, .slice za (tlen z) zc] 44)).alloc (.cells #[.slice none 0 0, .slice none 0 0] 59)).alloc (.cells #[.slice none 0 0, .slice none 0 0] 59)) := ⟨_, rfl⟩
  rw [← hW0] at hx0 z0 hA0 hR0 hO0 ⊢
  clear hW0
  have X0 : Hid (Ex w W0) := hx0
  have BA0 : Hid _ := hA0
  have BR0 : Hid _ := hR0
  have BO0 : Hid _ := hO0
  have Z0 : Hid (W0.heap.size = w.heap.size + 3) := z0
  clear hx0 hA0 hR0 hO0 z0
  refine (H_hB.out _ X0.out).mono ?_
  rintro e w1 ⟨v1, rfl, y_b, hb1⟩
  have hxa1 : Ex w w1 := X0.out.trans hb1
  have hA1 := hb1.blk BA0.out
  have hR1 := hb1.blk BR0.out
  have hO1 := hb1.blk BO0.out
  have hsz1 := hb1.size
  have ca1 : w1.cell? ⟨w.heap.size, 1, none⟩ = some (.slice za (tlen z) zc) := blk_cell hA1 1
  have co0 : w1.cell? ⟨w.heap.size + 1 + 1, 0, none⟩ = some (.slice none 0 0) := blk_cell hO1 0
  have fo0 := blk_free hO1 0
  have qO1 : (w1.setCell ⟨w.heap.size + 1 + 1, 0, none⟩ (.slice v1 (blen b) (blen b))).heap[w.heap.size + 1 + 1]? = some (.cells #[.slice v1 (blen b) (blen b), .slice none 0 0] 59 (0, 0)) := (blk_set hO1 (.slice v1 (blen b) (blen b)))
  have qR1 : (w1.setCell ⟨w.heap.size + 1 + 1, 0, none⟩ (.slice v1 (blen b) (blen b))).heap[w.heap.size + 1]? = some (.cells #[.slice none 0 0, .slice none 0 0] 59 (0, 0)) := (blk_off hR1 (by omega) (.slice v1 (blen b) (blen b)))
  have qA1 : (w1.setCell ⟨w.heap.size + 1 + 1, 0, none⟩ (.slice v1 (blen b) (blen b))).heap[w.heap.size]? = some (.cells #[.slice ba (blen b) bc, .slice za (tlen z) zc] 44 (0, 0)) := (blk_off hA1 (by omega) (.slice v1 (blen b) (blen b)))
  have qx1 : Ex w (w1.setCell ⟨w.heap.size + 1 + 1, 0, none⟩ (.slice v1 (blen b) (blen b))) := (hxa1.set (by show w.heap.size ≤ w.heap.size + 1 + 1; omega) (.slice v1 (blen b) (blen b)))
  have qk1 : Kp (w.heap.size + 3) w1 (w1.setCell ⟨w.heap.size + 1 + 1, 0, none⟩ (.slice v1 (blen b) (blen b))) := ((Kp.refl (w.heap.size + 3) _).set (Or.inl (by show w.heap.size + 1 + 1 < w.heap.size + 3; omega)) (.slice v1 (blen b) (blen b)))
  have yb_b1 := BA_kp (BA_lo y_b (by have := Z0.out; omega)) qk1
  have qz1 : w.heap.size + 3 ≤ (w1.setCell ⟨w.heap.size + 1 + 1, 0, none⟩ (.slice v1 (blen b) (blen b))).heap.size := by (try simp only [World.size_setCell]); have := Z0.out; omega
  obtain ⟨W1, hW1⟩ : ∃ W, W = (w1.setCell ⟨w.heap.size + 1 + 1, 0, none⟩ (.slice v1 (blen b) (blen b))) := ⟨_, rfl⟩
  rw [← hW1] at qO1 qR1 qA1 qx1 qz1 yb_b1
  have X1 : Hid (Ex w W1) := qx1
  have BA1 : Hid _ := qA1
  have BR1 : Hid _ := qR1
  have BO1 : Hid _ := qO1
  have Z1 : Hid (w.heap.size + 3 ≤ W1.heap.size) := qz1
  have HW1 : Hid (W1 = (w1.setCell ⟨w.heap.size + 1 + 1, 0, none⟩ (.slice v1 (blen b) (blen b)))) := hW1
  skip
  have M_b : Hid _ := yb_b1
  clear hW1 qO1 qR1 qA1 qx1 qz1 qk1 hxa1 hA1 hR1 hO1 hsz1 hb1 BA0 BR0 BO0 X0 Z0 yb_b1  y_b
  go_wp2_with fail
  rw [← HW1.out]
  clear HW1 ca1 co0 fo0
  refine (toTermS_any z za zc W1 hz hzm (MA_below H_hM.out X1.out)).mono ?_
  rintro e w2 ⟨v2, rfl, y_z, hb2⟩
  have hxa2 : Ex w w2 := X1.out.trans hb2
  have hA2 := hb2.blk BA1.out
  have hR2 := hb2.blk BR1.out
  have hO2 := hb2.blk BO1.out
  have hsz2 := hb2.size
  have ya_b2 := BA_below M_b.out hb2
  have co0 : w2.cell? ⟨w.heap.size + 1 + 1, 0, none⟩ = some (.slice v1 (blen b) (blen b)) := blk_cell hO2 0
  have co1 : w2.cell? ⟨w.heap.size + 1 + 1, 1, none⟩ = some (.slice none 0 0) := blk_cell hO2 1
  have fo1 := blk_free hO2 1
  have cr0 : w2.cell? ⟨w.heap.size + 1, 0, none⟩ = some (.slice none 0 0) := blk_cell hR2 0
  have cr1 : w2.cell? ⟨w.heap.size + 1, 1, none⟩ = some (.slice none 0 0) := blk_cell hR2 1
  have fr0 := blk_free hR2 0
  have fr1 := blk_free hR2 1
  have qO2 : (w2.setCell ⟨w.heap.size + 1 + 1, 1, none⟩ (.slice v2 (tlen z) (tlen z))).heap[w.heap.size + 1 + 1]? = some (.cells #[.slice v1 (blen b) (blen b), .slice v2 (tlen z) (tlen z)] 59 (0, 0)) := (blk_set hO2 (.slice v2 (tlen z) (tlen z)))
  have qR2 : (w2.setCell ⟨w.heap.size + 1 + 1, 1, none⟩ (.slice v2 (tlen z) (tlen z))).heap[w.heap.size + 1]? = some (.cells #[.slice none 0 0, .slice none 0 0] 59 (0, 0)) := (blk_off hR2 (by omega) (.slice v2 (tlen z) (tlen z)))
  have qA2 : (w2.setCell ⟨w.heap.size + 1 + 1, 1, none⟩ (.slice v2 (tlen z) (tlen z))).heap[w.heap.size]? = some (.cells #[.slice ba (blen b) bc, .slice za (tlen z) zc] 44 (0, 0)) := (blk_off hA2 (by omega) (.slice v2 (tlen z) (tlen z)))
  have qx2 : Ex w (w2.setCell ⟨w.heap.size + 1 + 1, 1, none⟩ (.slice v2 (tlen z) (tlen z))) := (hxa2.set (by show w.heap.size ≤ w.heap.size + 1 + 1; omega) (.slice v2 (tlen z) (tlen z)))
  have qk2 : Kp (w.heap.size + 3) w2 (w2.setCell ⟨w.heap.size + 1 + 1, 1, none⟩ (.slice v2 (tlen z) (tlen z))) := ((Kp.refl (w.heap.size + 3) _).set (Or.inl (by show w.heap.size + 1 + 1 < w.heap.size + 3; omega)) (.slice v2 (tlen z) (tlen z)))
  have yb_b2 := BA_kp ya_b2 qk2
  have yb_z2 := MA_kp (MA_lo y_z (by have := Z1.out; omega)) qk2
  have qz2 : w.heap.size + 3 ≤ (w2.setCell ⟨w.heap.size + 1 + 1, 1, none⟩ (.slice v2 (tlen z) (tlen z))).heap.size := by (try simp only [World.size_setCell]); have := Z1.out; omega
  have qQ : (setL (w2.setCell ⟨w.heap.size + 1 + 1, 1, none⟩ (.slice v2 (tlen z) (tlen z))) (w.heap.size + 1) 0 [.slice v1 (blen b) (blen b), .slice v2 (tlen z) (tlen z)]).heap[w.heap.size + 1]? = some (.cells #[.slice v1 (blen b) (blen b), .slice v2 (tlen z) (tlen z)] 59 (0, 0)) := (setL_blk [.slice v1 (blen b) (blen b), .slice v2 (tlen z) (tlen z)] qR2).trans (by rw [setA_all [.slice v1 (blen b) (blen b), .slice v2 (tlen z) (tlen z)] #[.slice none 0 0, .slice none 0 0] rfl])
  have rr0 : (setL (w2.setCell ⟨w.heap.size + 1 + 1, 1, none⟩ (.slice v2 (tlen z) (tlen z))) (w.heap.size + 1) 0 [.slice v1 (blen b) (blen b), .slice v2 (tlen z) (tlen z)]).cell? ⟨w.heap.size + 1, 0, none⟩ = some (.slice v1 (blen b) (blen b)) := blk_cell qQ 0
  have rr1 : (setL (w2.setCell ⟨w.heap.size + 1 + 1, 1, none⟩ (.slice v2 (tlen z) (tlen z))) (w.heap.size + 1) 0 [.slice v1 (blen b) (blen b), .slice v2 (tlen z) (tlen z)]).cell? ⟨w.heap.size + 1, 1, none⟩ = some (.slice v2 (tlen z) (tlen z)) := blk_cell qQ 1
  have qxx : Ex w (setL (w2.setCell ⟨w.heap.size + 1 + 1, 1, none⟩ (.slice v2 (tlen z) (tlen z))) (w.heap.size + 1) 0 [.slice v1 (blen b) (blen b), .slice v2 (tlen z) (tlen z)]) := setL_ex [.slice v1 (blen b) (blen b), .slice v2 (tlen z) (tlen z)] qx2 (by omega)
  have qkk : Kp (w.heap.size + 3) (w2.setCell ⟨w.heap.size + 1 + 1, 1, none⟩ (.slice v2 (tlen z) (tlen z))) (setL (w2.setCell ⟨w.heap.size + 1 + 1, 1, none⟩ (.slice v2 (tlen z) (tlen z))) (w.heap.size + 1) 0 [.slice v1 (blen b) (blen b), .slice v2 (tlen z) (tlen z)]) := setL_kp [.slice v1 (blen b) (blen b), .slice v2 (tlen z) (tlen z)] (Kp.refl _ _) (Or.inl (by omega))
  have yc_b := BA_kp yb_b2 qkk
  have yc_z := MA_kp yb_z2 qkk
  have RR0 : Hid _ := rr0
  have RR1 : Hid _ := rr1
  have QX : Hid _ := qxx
  have YC_b : Hid _ := yc_b
  have YC_z : Hid _ := yc_z
  clear qQ qxx qkk qO2 qR2 qA2 qx2 qz2 qk2 hxa2 hA2 hR2 hO2 hsz2 hb2 BA1 BR1 BO1 X1 Z1 rr0 rr1 yb_b2 yc_b yb_z2 yc_z ya_b2 M_b y_z
  go_wp2_with fail
  have r0 := RR0.out
  have r1 := RR1.out
  simp only [setL, Nat.zero_add] at r0 r1
  refine bodyPost_ret (v := .agg #[.slice v1 (blen b) (blen b), .slice v2 (tlen z) (tlen z)]) (by simp [results, Tryz.results56, go_sem, r0, r1]) rfl ?_
  exact ⟨v1, v2, rfl, BA_lo YC_b.out (by omega), MA_lo YC_z.out (by omega), QX.out⟩

theorem BSm_terms : ∀ {f : BD}, BSm f → ∀ i, i < blen f → TSm (bterms f i) ∧ TSm (btsay f i) ∧ TSm (besay f i)
  | .nil, _, i, h => by simp [blen] at h
  | .node _ _ _ _ .nil, _, i, h => by simp [blen] at h
  | .node _ _ (_, _, _, _, _, _) _ (.node _ _ _ _ r), hs, 0, _ => ⟨hs.2.2.1, hs.2.2.2.2.2.2.1, hs.2.2.2.2.2.2.2.2.2.2.1⟩
  | .node _ _ (_, _, _, _, _, _) _ (.node _ _ _ _ r), hs, i + 1, h => BSm_terms hs.2.2.2.2.2.2.2.2.2.2.2 i (by simp only [blen] at h; omega)

theorem toBody_all : ∀ (d : Nat) (b : BD) (ba : Option Addr) (bc : Nat) (z : TM) (za : Option Addr) (zc : Nat) (w : World), bdep b < d → blen b ≤ 1000000000 → BSm b → tlen z ≤ 1000000000 → TSm z → BA w 0 b ba → MA w 0 z za →
    Calls Tryz.prog 56 #[.agg #[.slice ba (blen b) bc, .slice za (tlen z) zc]] w fun e w' => ∃ v1 v2, e = .returned (.agg #[.slice v1 (blen b) (blen b), .slice v2 (tlen z) (tlen z)]) ∧ BA w' w.heap.size b v1 ∧ MA w' w.heap.size z v2 ∧ Ex w w' := by
  intro d
  induction d with
  | zero => intro b ba bc z za zc w hd; omega
  | succ d ih =>
    intro b ba bc z za zc w hd hbl hbm hzl hzm hB hM
    refine toBody_by b ba bc z za zc w (fun w' hx => ?_) hzl hzm hM
    refine toBindS_by b ba bc w' hbl (BA_below hB hx) fun j hj a1 k1 a3 k3 a4 k4 a5 k5 a6 k6 a7 k7 w2 hx2 y1 y3 y4 y5 y6 y7 => ?_
    obtain ⟨g1, g2, g3, g4, g5, g6, g7, g8⟩ := BSm_at hbm j hj
    obtain ⟨m1, m2, m3⟩ := BSm_terms hbm j hj
    have hdj := bdep_kid b j hj
    exact toBind_by _ _ a1 k1 _ _ a3 k3 _ a4 k4 _ a5 k5 _ a6 k6 _ a7 k7 w2 g1 y1 g2 m1 y3
      (fun w4 hx4 => ih _ a4 k4 _ a5 k5 w4 (by omega) g3 g4 g5 m2 (BA_below y4 hx4) (MA_below y5 hx4))
      (fun w4 hx4 => ih _ a6 k6 _ a7 k7 w4 (by omega) g6 g7 g8 m3 (BA_below y6 hx4) (MA_below y7 hx4))

def toPure_byP (nm : ByteArray) (ps : List ByteArray) (b : BD) (z : TM) (w : World) (e : Ending) (w' : World) : Prop := ∃ u1 u2 u3, e = .returned (.agg #[.string nm, .slice u1 ps.length ps.length, .slice u2 (blen b) (blen b), .slice u3 (tlen z) (tlen z)]) ∧ XA w' w.heap.size ps u1 ∧ BA w' w.heap.size b u2 ∧ MA w' w.heap.size z u3 ∧ Ex w w'
set_option maxRecDepth 100000 in
set_option maxHeartbeats 4000000 in
theorem toPure_by (nm : ByteArray) (ps : List ByteArray) (a1 : Option Addr) (k1 : Nat) (b : BD) (a2 : Option Addr) (k2 : Nat) (z : TM) (a3 : Option Addr) (k3 : Nat) (w : World) (hp : ps.length ≤ 1000000000) (hX : XA w 0 ps a1) (hB : ∀ w', Ex w w' → Calls Tryz.prog 56 #[.agg #[.slice a2 (blen b) k2, .slice a3 (tlen z) k3]] w' fun e w'' => ∃ v1 v2, e = .returned (.agg #[.slice v1 (blen b) (blen b), .slice v2 (tlen z) (tlen z)]) ∧ BA w'' w'.heap.size b v1 ∧ MA w'' w'.heap.size z v2 ∧ Ex w' w'') :
    Calls Tryz.prog 26 #[.agg #[.string nm, .slice a1 ps.length k1, .slice a2 (blen b) k2, .slice a3 (tlen z) k3]] w (toPure_byP nm ps b z w) := by
  have H_hX : Hid _ := hX
  clear hX
  have H_hB : Hid _ := hB
  clear hB
  go_enter Tryz.func26, Tryz.ntmps26
  go_wp2_with fail
  have hx0 : Ex w (((w.alloc (.cells #[.string nm, .slice a1 ps.length k1, .slice a2 (blen b) k2, .slice a3 (tlen z) k3] 46)).alloc (.cells #[.string ⟨#[]⟩, .slice none 0 0, .slice none 0 0, .slice none 0 0] 61)).alloc (.cells #[.string nm, .slice none 0 0, .slice none 0 0, .slice none 0 0] 61)) := ((Ex.new _ _).alloc _).alloc _
  have z0 : (((w.alloc (.cells #[.string nm, .slice a1 ps.length k1, .slice a2 (blen b) k2, .slice a3 (tlen z) k3] 46)).alloc (.cells #[.string ⟨#[]⟩, .slice none 0 0, .slice none 0 0, .slice none 0 0] 61)).alloc (.cells #[.string nm, .slice none 0 0, .slice none 0 0, .slice none 0 0] 61)).heap.size = w.heap.size + 3 := by simp only [World.size_alloc]
  have hA0 : (((w.alloc (.cells #[.string nm, .slice a1 ps.length k1, .slice a2 (blen b) k2, .slice a3 (tlen z) k3] 46)).alloc (.cells #[.string ⟨#[]⟩, .slice none 0 0, .slice none 0 0, .slice none 0 0] 61)).alloc (.cells #[.string nm, .slice none 0 0, .slice none 0 0, .slice none 0 0] 61)).heap[w.heap.size]? = some (.cells #[.string nm, .slice a1 ps.length k1, .slice a2 (blen b) k2, .slice a3 (tlen z) k3] 46 (0, 0)) := (((Ex.new _ _).alloc _).blk (heap_alloc_new _ _))
  have hR0 : (((w.alloc (.cells #[.string nm, .slice a1 ps.length k1, .slice a2 (blen b) k2, .slice a3 (tlen z) k3] 46)).alloc (.cells #[.string ⟨#[]⟩, .slice none 0 0, .slice none 0 0, .slice none 0 0] 61)).alloc (.cells #[.string nm, .slice none 0 0, .slice none 0 0, .slice none 0 0] 61)).heap[w.heap.size + 1]? = some (.cells #[.string ⟨#[]⟩, .slice none 0 0, .slice none 0 0, .slice none 0 0] 61 (0, 0)) := ((Ex.new _ _).blk (heap_alloc_at _ _ (by simp only [World.size_alloc])))
  have hO0 : (((w.alloc (.cells #[.string nm, .slice a1 ps.length k1, .slice a2 (blen b) k2, .slice a3 (tlen z) k3] 46)).alloc (.cells #[.string ⟨#[]⟩, .slice none 0 0, .slice none 0 0, .slice none 0 0] 61)).alloc (.cells #[.string nm, .slice none 0 0, .slice none 0 0, .slice none 0 0] 61)).heap[w.heap.size + 1 + 1]? = some (.cells #[.string nm, .slice none 0 0, .slice none 0 0, .slice none 0 0] 61 (0, 0)) := heap_alloc_at _ _ (by simp only [World.size_alloc])
  obtain ⟨W0, hW0⟩ : ∃ W0, W0 = (((w.alloc (.cells #[.string nm, .slice a1 ps.length k1, .slice a2 (blen b) k2, .slice a3 (tlen z) k3] 46)).alloc (.cells #[.string ⟨#[]⟩, .slice none 0 0, .slice none 0 0, .slice none 0 0] 61)).alloc (.cells #[.string nm, .slice none 0 0, .slice none 0 0, .slice none 0 0] 61)) := ⟨_, rfl⟩
  rw [← hW0] at hx0 z0 hA0 hR0 hO0 ⊢
  clear hW0
  have X0 : Hid (Ex w W0) := hx0
  have BA0 : Hid _ := hA0
  have BR0 : Hid _ := hR0
  have BO0 : Hid _ := hO0
  have Z0 : Hid (W0.heap.size = w.heap.size + 3) := z0
  clear hx0 hA0 hR0 hO0 z0
  refine (toTexts_any ps a1 k1 W0 hp (XA_below H_hX.out X0.out)).mono ?_
  rintro e w1 ⟨u1, rfl, y_n, hb1⟩
  have hxa1 : Ex w w1 := X0.out.trans hb1
  have hA1 := hb1.blk BA0.out
  have hR1 := hb1.blk BR0.out
  have hO1 := hb1.blk BO0.out
  have hsz1 := hb1.size
  have ca2 : w1.cell? ⟨w.heap.size, 2, none⟩ = some (.slice a2 (blen b) k2) := blk_cell hA1 2
  have ca3 : w1.cell? ⟨w.heap.size, 3, none⟩ = some (.slice a3 (tlen z) k3) := blk_cell hA1 3
  have co1 : w1.cell? ⟨w.heap.size + 1 + 1, 1, none⟩ = some (.slice none 0 0) := blk_cell hO1 1
  have fo1 := blk_free hO1 1
  have qO1 : (w1.setCell ⟨w.heap.size + 1 + 1, 1, none⟩ (.slice u1 ps.length ps.length)).heap[w.heap.size + 1 + 1]? = some (.cells #[.string nm, .slice u1 ps.length ps.length, .slice none 0 0, .slice none 0 0] 61 (0, 0)) := (blk_set hO1 (.slice u1 ps.length ps.length))
  have qR1 : (w1.setCell ⟨w.heap.size + 1 + 1, 1, none⟩ (.slice u1 ps.length ps.length)).heap[w.heap.size + 1]? = some (.cells #[.string ⟨#[]⟩, .slice none 0 0, .slice none 0 0, .slice none 0 0] 61 (0, 0)) := (blk_off hR1 (by omega) (.slice u1 ps.length ps.length))
  have qA1 : (w1.setCell ⟨w.heap.size + 1 + 1, 1, none⟩ (.slice u1 ps.length ps.length)).heap[w.heap.size]? = some (.cells #[.string nm, .slice a1 ps.length k1, .slice a2 (blen b) k2, .slice a3 (tlen z) k3] 46 (0, 0)) := (blk_off hA1 (by omega) (.slice u1 ps.length ps.length))
  have qx1 : Ex w (w1.setCell ⟨w.heap.size + 1 + 1, 1, none⟩ (.slice u1 ps.length ps.length)) := (hxa1.set (by show w.heap.size ≤ w.heap.size + 1 + 1; omega) (.slice u1 ps.length ps.length))
  have qk1 : Kp (w.heap.size + 3) w1 (w1.setCell ⟨w.heap.size + 1 + 1, 1, none⟩ (.slice u1 ps.length ps.length)) := ((Kp.refl (w.heap.size + 3) _).set (Or.inl (by show w.heap.size + 1 + 1 < w.heap.size + 3; omega)) (.slice u1 ps.length ps.length))
  have yb_n1 := XA_kp (XA_lo y_n (by have := Z0.out; omega)) qk1
  have qz1 : w.heap.size + 3 ≤ (w1.setCell ⟨w.heap.size + 1 + 1, 1, none⟩ (.slice u1 ps.length ps.length)).heap.size := by (try simp only [World.size_setCell]); have := Z0.out; omega
  obtain ⟨W1, hW1⟩ : ∃ W, W = (w1.setCell ⟨w.heap.size + 1 + 1, 1, none⟩ (.slice u1 ps.length ps.length)) := ⟨_, rfl⟩
  rw [← hW1] at qO1 qR1 qA1 qx1 qz1 yb_n1
  have X1 : Hid (Ex w W1) := qx1
  have BA1 : Hid _ := qA1
  have BR1 : Hid _ := qR1
  have BO1 : Hid _ := qO1
  have Z1 : Hid (w.heap.size + 3 ≤ W1.heap.size) := qz1
  have HW1 : Hid (W1 = (w1.setCell ⟨w.heap.size + 1 + 1, 1, none⟩ (.slice u1 ps.length ps.length))) := hW1
  skip
  have M_n : Hid _ := yb_n1
  clear hW1 qO1 qR1 qA1 qx1 qz1 qk1 hxa1 hA1 hR1 hO1 hsz1 hb1 BA0 BR0 BO0 X0 Z0 yb_n1  y_n
  go_wp2_with fail
  rw [← HW1.out]
  clear HW1 ca2 ca3 co1 fo1
  refine (H_hB.out _ X1.out).mono ?_
  rintro e w2 ⟨u2, u3, rfl, y_b, y_z, hb2⟩
  have hxa2 : Ex w w2 := X1.out.trans hb2
  have hA2 := hb2.blk BA1.out
  have hR2 := hb2.blk BR1.out
  have hO2 := hb2.blk BO1.out
  have hsz2 := hb2.size
  have ya_n2 := XA_below M_n.out hb2
  have co0 : w2.cell? ⟨w.heap.size + 1 + 1, 0, none⟩ = some (.string nm) := blk_cell hO2 0
  have co1 : w2.cell? ⟨w.heap.size + 1 + 1, 1, none⟩ = some (.slice u1 ps.length ps.length) := blk_cell hO2 1
  have co2 : w2.cell? ⟨w.heap.size + 1 + 1, 2, none⟩ = some (.slice none 0 0) := blk_cell hO2 2
  have co3 : w2.cell? ⟨w.heap.size + 1 + 1, 3, none⟩ = some (.slice none 0 0) := blk_cell hO2 3
  have fo2 := blk_free hO2 2
  have fo3 := blk_free hO2 3
  have cr0 : w2.cell? ⟨w.heap.size + 1, 0, none⟩ = some (.string ⟨#[]⟩) := blk_cell hR2 0
  have cr1 : w2.cell? ⟨w.heap.size + 1, 1, none⟩ = some (.slice none 0 0) := blk_cell hR2 1
  have cr2 : w2.cell? ⟨w.heap.size + 1, 2, none⟩ = some (.slice none 0 0) := blk_cell hR2 2
  have cr3 : w2.cell? ⟨w.heap.size + 1, 3, none⟩ = some (.slice none 0 0) := blk_cell hR2 3
  have fr0 := blk_free hR2 0
  have fr1 := blk_free hR2 1
  have fr2 := blk_free hR2 2
  have fr3 := blk_free hR2 3
  have qO2 : ((w2.setCell ⟨w.heap.size + 1 + 1, 2, none⟩ (.slice u2 (blen b) (blen b))).setCell ⟨w.heap.size + 1 + 1, 3, none⟩ (.slice u3 (tlen z) (tlen z))).heap[w.heap.size + 1 + 1]? = some (.cells #[.string nm, .slice u1 ps.length ps.length, .slice u2 (blen b) (blen b), .slice u3 (tlen z) (tlen z)] 61 (0, 0)) := (blk_set (blk_set hO2 (.slice u2 (blen b) (blen b))) (.slice u3 (tlen z) (tlen z)))
  have qR2 : ((w2.setCell ⟨w.heap.size + 1 + 1, 2, none⟩ (.slice u2 (blen b) (blen b))).setCell ⟨w.heap.size + 1 + 1, 3, none⟩ (.slice u3 (tlen z) (tlen z))).heap[w.heap.size + 1]? = some (.cells #[.string ⟨#[]⟩, .slice none 0 0, .slice none 0 0, .slice none 0 0] 61 (0, 0)) := (blk_off (blk_off hR2 (by omega) (.slice u2 (blen b) (blen b))) (by omega) (.slice u3 (tlen z) (tlen z)))
  have qA2 : ((w2.setCell ⟨w.heap.size + 1 + 1, 2, none⟩ (.slice u2 (blen b) (blen b))).setCell ⟨w.heap.size + 1 + 1, 3, none⟩ (.slice u3 (tlen z) (tlen z))).heap[w.heap.size]? = some (.cells #[.string nm, .slice a1 ps.length k1, .slice a2 (blen b) k2, .slice a3 (tlen z) k3] 46 (0, 0)) := (blk_off (blk_off hA2 (by omega) (.slice u2 (blen b) (blen b))) (by omega) (.slice u3 (tlen z) (tlen z)))
  have qx2 : Ex w ((w2.setCell ⟨w.heap.size + 1 + 1, 2, none⟩ (.slice u2 (blen b) (blen b))).setCell ⟨w.heap.size + 1 + 1, 3, none⟩ (.slice u3 (tlen z) (tlen z))) := ((hxa2.set (by show w.heap.size ≤ w.heap.size + 1 + 1; omega) (.slice u2 (blen b) (blen b))).set (by show w.heap.size ≤ w.heap.size + 1 + 1; omega) (.slice u3 (tlen z) (tlen z)))
  have qk2 : Kp (w.heap.size + 3) w2 ((w2.setCell ⟨w.heap.size + 1 + 1, 2, none⟩ (.slice u2 (blen b) (blen b))).setCell ⟨w.heap.size + 1 + 1, 3, none⟩ (.slice u3 (tlen z) (tlen z))) := (((Kp.refl (w.heap.size + 3) _).set (Or.inl (by show w.heap.size + 1 + 1 < w.heap.size + 3; omega)) (.slice u2 (blen b) (blen b))).set (Or.inl (by show w.heap.size + 1 + 1 < w.heap.size + 3; omega)) (.slice u3 (tlen z) (tlen z)))
  have yb_n2 := XA_kp ya_n2 qk2
  have yb_b2 := BA_kp (BA_lo y_b (by have := Z1.out; omega)) qk2
  have yb_z2 := MA_kp (MA_lo y_z (by have := Z1.out; omega)) qk2
  have qz2 : w.heap.size + 3 ≤ ((w2.setCell ⟨w.heap.size + 1 + 1, 2, none⟩ (.slice u2 (blen b) (blen b))).setCell ⟨w.heap.size + 1 + 1, 3, none⟩ (.slice u3 (tlen z) (tlen z))).heap.size := by (try simp only [World.size_setCell]); have := Z1.out; omega
  have qQ : (setL ((w2.setCell ⟨w.heap.size + 1 + 1, 2, none⟩ (.slice u2 (blen b) (blen b))).setCell ⟨w.heap.size + 1 + 1, 3, none⟩ (.slice u3 (tlen z) (tlen z))) (w.heap.size + 1) 0 [.string nm, .slice u1 ps.length ps.length, .slice u2 (blen b) (blen b), .slice u3 (tlen z) (tlen z)]).heap[w.heap.size + 1]? = some (.cells #[.string nm, .slice u1 ps.length ps.length, .slice u2 (blen b) (blen b), .slice u3 (tlen z) (tlen z)] 61 (0, 0)) := (setL_blk [.string nm, .slice u1 ps.length ps.length, .slice u2 (blen b) (blen b), .slice u3 (tlen z) (tlen z)] qR2).trans (by rw [setA_all [.string nm, .slice u1 ps.length ps.length, .slice u2 (blen b) (blen b), .slice u3 (tlen z) (tlen z)] #[.string ⟨#[]⟩, .slice none 0 0, .slice none 0 0, .slice none 0 0] rfl])
  have rr0 : (setL ((w2.setCell ⟨w.heap.size + 1 + 1, 2, none⟩ (.slice u2 (blen b) (blen b))).setCell ⟨w.heap.size + 1 + 1, 3, none⟩ (.slice u3 (tlen z) (tlen z))) (w.heap.size + 1) 0 [.string nm, .slice u1 ps.length ps.length, .slice u2 (blen b) (blen b), .slice u3 (tlen z) (tlen z)]).cell? ⟨w.heap.size + 1, 0, none⟩ = some (.string nm) := blk_cell qQ 0
  have rr1 : (setL ((w2.setCell ⟨w.heap.size + 1 + 1, 2, none⟩ (.slice u2 (blen b) (blen b))).setCell ⟨w.heap.size + 1 + 1, 3, none⟩ (.slice u3 (tlen z) (tlen z))) (w.heap.size + 1) 0 [.string nm, .slice u1 ps.length ps.length, .slice u2 (blen b) (blen b), .slice u3 (tlen z) (tlen z)]).cell? ⟨w.heap.size + 1, 1, none⟩ = some (.slice u1 ps.length ps.length) := blk_cell qQ 1
  have rr2 : (setL ((w2.setCell ⟨w.heap.size + 1 + 1, 2, none⟩ (.slice u2 (blen b) (blen b))).setCell ⟨w.heap.size + 1 + 1, 3, none⟩ (.slice u3 (tlen z) (tlen z))) (w.heap.size + 1) 0 [.string nm, .slice u1 ps.length ps.length, .slice u2 (blen b) (blen b), .slice u3 (tlen z) (tlen z)]).cell? ⟨w.heap.size + 1, 2, none⟩ = some (.slice u2 (blen b) (blen b)) := blk_cell qQ 2
  have rr3 : (setL ((w2.setCell ⟨w.heap.size + 1 + 1, 2, none⟩ (.slice u2 (blen b) (blen b))).setCell ⟨w.heap.size + 1 + 1, 3, none⟩ (.slice u3 (tlen z) (tlen z))) (w.heap.size + 1) 0 [.string nm, .slice u1 ps.length ps.length, .slice u2 (blen b) (blen b), .slice u3 (tlen z) (tlen z)]).cell? ⟨w.heap.size + 1, 3, none⟩ = some (.slice u3 (tlen z) (tlen z)) := blk_cell qQ 3
  have qxx : Ex w (setL ((w2.setCell ⟨w.heap.size + 1 + 1, 2, none⟩ (.slice u2 (blen b) (blen b))).setCell ⟨w.heap.size + 1 + 1, 3, none⟩ (.slice u3 (tlen z) (tlen z))) (w.heap.size + 1) 0 [.string nm, .slice u1 ps.length ps.length, .slice u2 (blen b) (blen b), .slice u3 (tlen z) (tlen z)]) := setL_ex [.string nm, .slice u1 ps.length ps.length, .slice u2 (blen b) (blen b), .slice u3 (tlen z) (tlen z)] qx2 (by omega)
  have qkk : Kp (w.heap.size + 3) ((w2.setCell ⟨w.heap.size + 1 + 1, 2, none⟩ (.slice u2 (blen b) (blen b))).setCell ⟨w.heap.size + 1 + 1, 3, none⟩ (.slice u3 (tlen z) (tlen z))) (setL ((w2.setCell ⟨w.heap.size + 1 + 1, 2, none⟩ (.slice u2 (blen b) (blen b))).setCell ⟨w.heap.size + 1 + 1, 3, none⟩ (.slice u3 (tlen z) (tlen z))) (w.heap.size + 1) 0 [.string nm, .slice u1 ps.length ps.length, .slice u2 (blen b) (blen b), .slice u3 (tlen z) (tlen z)]) := setL_kp [.string nm, .slice u1 ps.length ps.length, .slice u2 (blen b) (blen b), .slice u3 (tlen z) (tlen z)] (Kp.refl _ _) (Or.inl (by omega))
  have yc_n := XA_kp yb_n2 qkk
  have yc_b := BA_kp yb_b2 qkk
  have yc_z := MA_kp yb_z2 qkk
  have RR0 : Hid _ := rr0
  have RR1 : Hid _ := rr1
  have RR2 : Hid _ := rr2
  have RR3 : Hid _ := rr3
  have QX : Hid _ := qxx
  have YC_n : Hid _ := yc_n
  have YC_b : Hid _ := yc_b
  have YC_z : Hid _ := yc_z
  clear qQ qxx qkk qO2 qR2 qA2 qx2 qz2 qk2 hxa2 hA2 hR2 hO2 hsz2 hb2 BA1 BR1 BO1 X1 Z1 rr0 rr1 rr2 rr3 yb_n2 yc_n yb_b2 yc_b yb_z2 yc_z ya_n2 M_n y_b y_z
  go_wp2_with fail
  have r0 := RR0.out
  have r1 := RR1.out
  have r2 := RR2.out
  have r3 := RR3.out
  simp only [setL, Nat.zero_add, Nat.reduceAdd] at r0 r1 r2 r3
  refine bodyPost_ret (v := .agg #[.string nm, .slice u1 ps.length ps.length, .slice u2 (blen b) (blen b), .slice u3 (tlen z) (tlen z)]) (by simp [results, Tryz.results26, go_sem, r0, r1, r2, r3]) rfl ?_
  exact ⟨u1, u2, u3, rfl, XA_lo YC_n.out (by omega), BA_lo YC_b.out (by omega), MA_lo YC_z.out (by omega), QX.out⟩

theorem Tryz.info61 : (Tryz.prog.info? 61).map (fun i => (i.zero, i.size, i.bytes)) = some (some (.agg #[.string ⟨#[]⟩, .slice none 0 0, .slice none 0 0, .slice none 0 0]), 4, 88) := by kernel_rfl

set_option maxRecDepth 100000 in
set_option maxHeartbeats 4000000 in
theorem toPureS_by (f : List PM) (a : Option Addr) (c : Nat) (w : World) (hl : f.length ≤ 1000000000) (hT : QA w 0 f a)
    (hK : ∀ j, j < f.length → ∀ (a1 : Option Addr) (k1 : Nat) (a2 : Option Addr) (k2 : Nat) (a3 : Option Addr) (k3 : Nat) (w' : World), Ex w w' → XA w' 0 (f.getD j pm0).params a1 → BA w' 0 (f.getD j pm0).binds a2 → MA w' 0 (f.getD j pm0).says a3 → Calls Tryz.prog 26 #[.agg #[.string (f.getD j pm0).name, .slice a1 (f.getD j pm0).params.length k1, .slice a2 (blen (f.getD j pm0).binds) k2, .slice a3 (tlen (f.getD j pm0).says) k3]] w' fun e w'' => ∃ u1 u2 u3, e = .returned (.agg #[.string (f.getD j pm0).name, .slice u1 (f.getD j pm0).params.length (f.getD j pm0).params.length, .slice u2 (blen (f.getD j pm0).binds) (blen (f.getD j pm0).binds), .slice u3 (tlen (f.getD j pm0).says) (tlen (f.getD j pm0).says)]) ∧ XA w'' w'.heap.size (f.getD j pm0).params u1 ∧ BA w'' w'.heap.size (f.getD j pm0).binds u2 ∧ MA w'' w'.heap.size (f.getD j pm0).says u3 ∧ Ex w' w'') :
    Calls Tryz.prog 8 #[.slice a (f.length) c] w fun e w' => ∃ a', e = .returned (.slice a' (f.length) (f.length)) ∧ QA w' w.heap.size f a' ∧ Ex w w' := by
  have T : Hid (∀ w', Ex w w' → QA w' 0 f a) := fun _ h => QA_below hT h
  have I : Hid _ := hK
  clear hT hK
  obtain ⟨i0, hi, hz0, hz1, hz2⟩ := info_parts Tryz.info61
  have hmk : ∀ w : World, (Instr.makeSlice 29 (.int .i64 (f.length : Int)) (.int .i64 (f.length : Int))).run Tryz.prog w = .ok (.slice (some ⟨w.heap.size, 0, none⟩) (f.length) (f.length)) (w.alloc (.cells (madeCells #[.string ⟨#[]⟩, .slice none 0 0, .slice none 0 0, .slice none 0 0] (f.length * 4)) 61)) := fun w => by
    have := run_make (P := Tryz.prog) w 29 61 i0 _ Tryz.underlying29 hi hz0 .i64 .i64 (f.length : Int) (f.length : Int) (by omega) (by omega) (by rw [hz2]; omega) (by omega)
    rw [hz1] at this
    simpa [Value.cells] using this
  clear hz0 hz1 hz2 hi
  go_enter Tryz.func8, Tryz.ntmps8
  go_wp2_with fail
  go_loopw [4] (fun i wr => ∃ (k : Nat) (cur : Array Value), k ≤ f.length ∧ i = .int .i64 k ∧ Ex w wr ∧ wr.heap[w.heap.size]? = some (.cells cur 61 (0, 0)) ∧ cur.size = f.length * 4 ∧ (∀ j, j < k → PT wr (fun b => w.heap.size < b) (f.getD j pm0) w.heap.size (0 + j * 4))) (fun i _ => f.length - (intOf i).toNat)
  case atStart => exact ⟨0, madeCells #[.string ⟨#[]⟩, .slice none 0 0, .slice none 0 0, .slice none 0 0] (f.length * 4), Nat.zero_le _, rfl, Ex.new _ _, heap_alloc_new _ _, size_madeCells _ _, fun j hj => by omega⟩
  case round =>
    obtain ⟨j, cur, hk, rfl, hx, hob, hcs, hkids⟩ := hrel
    have KI : Hid _ := hkids
    have HCS : Hid (cur.size = f.length * 4) := hcs
    have X : Hid (Ex w wr) := hx
    have OB : Hid (wr.heap[w.heap.size]? = some (.cells cur 61 (0, 0))) := hob
    clear hkids hcs hx hob
    by_cases hlt : j < f.length
    · obtain ⟨b, o, rfl, _, hbs, hkk⟩ := QA_at (T.out wr X.out) (by omega)
      obtain ⟨b0, ⟨a1, k1, b1, hnc, x1⟩, ⟨a2, k2, b2, x2⟩, ⟨a3, k3, b3, x3⟩⟩ := hkk j hlt
      have HI : Hid _ := I.out j hlt a1 k1 a2 k2 a3 k3 wr X.out x1 x2 x3
      clear hk hkk hnc x1 x2 x3
      obtain ⟨g, hg⟩ : ∃ g, f.getD j pm0 = g := ⟨_, rfl⟩
      rw [hg] at b0 b1 b2 b3 HI
      have HG : Hid (f.getD j pm0 = g) := hg
      clear hg
      obtain ⟨gn, gp, gb, gs⟩ := g
      dsimp only at b0 b1 b2 b3 HI
      go_wp2_with fail
      refine Calls.mono HI.out ?_
      rintro e w1 ⟨u1, u2, u3, rfl, y1, y2, y3, hb1⟩
      have hob1 := hb1.blk OB.out
      have cc0 : w1.cell? ⟨w.heap.size, j * 4, none⟩ = some (cur[j * 4]'(by have := HCS.out; omega)) := by simp [World.cell?, hob1]
      have cc1 : w1.cell? ⟨w.heap.size, j * 4 + 1, none⟩ = some (cur[j * 4 + 1]'(by have := HCS.out; omega)) := by simp [World.cell?, hob1]
      have cc2 : w1.cell? ⟨w.heap.size, j * 4 + 2, none⟩ = some (cur[j * 4 + 2]'(by have := HCS.out; omega)) := by simp [World.cell?, hob1]
      have cc3 : w1.cell? ⟨w.heap.size, j * 4 + 3, none⟩ = some (cur[j * 4 + 3]'(by have := HCS.out; omega)) := by simp [World.cell?, hob1]
      have cf0 : w1.frozen? ⟨w.heap.size, j * 4, none⟩ = false := by simp [World.frozen?, hob1]
      have cf1 : w1.frozen? ⟨w.heap.size, j * 4 + 1, none⟩ = false := by simp [World.frozen?, hob1]
      have cf2 : w1.frozen? ⟨w.heap.size, j * 4 + 2, none⟩ = false := by simp [World.frozen?, hob1]
      have cf3 : w1.frozen? ⟨w.heap.size, j * 4 + 3, none⟩ = false := by simp [World.frozen?, hob1]
      have zr : w.heap.size < wr.heap.size := lt_of_block OB.out
      have B1 : Hid _ := hb1
      have OB1 : Hid _ := hob1
      have Y1 : Hid (XA w1 wr.heap.size (gp) u1) := y1
      have Y2 : Hid (BA w1 wr.heap.size (gb) u2) := y2
      have Y3 : Hid (MA w1 wr.heap.size (gs) u3) := y3
      clear y1 y2 y3
      clear hob1 hb1 HI
      go_wp2_with fail
      go_roundw
      case rel =>
        have hb1 := B1.out
        have hob1 := OB1.out
        have hQ : Ks (fun b => w.heap.size < b) w1 (setL w1 w.heap.size (j * 4) [.string gn, .slice u1 gp.length gp.length, .slice u2 (blen gb) (blen gb), .slice u3 (tlen gs) (tlen gs)]) := fun b hb _ => setL_other _ (by have : w.heap.size < b := hb; omega)
        refine ⟨j + 1, setA cur (j * 4) [.string gn, .slice u1 gp.length gp.length, .slice u2 (blen gb) (blen gb), .slice u3 (tlen gs) (tlen gs)], by omega, by go_num, setL_ex [.string gn, .slice u1 gp.length gp.length, .slice u2 (blen gb) (blen gb), .slice u3 (tlen gs) (tlen gs)] (X.out.trans hb1) (Nat.le_refl _), setL_blk [.string gn, .slice u1 gp.length gp.length, .slice u2 (blen gb) (blen gb), .slice u3 (tlen gs) (tlen gs)] hob1, by rw [setA_size]; exact HCS.out, fun i hi => ?_⟩
        show PT (setL w1 w.heap.size (j * 4) [.string gn, .slice u1 gp.length gp.length, .slice u2 (blen gb) (blen gb), .slice u3 (tlen gs) (tlen gs)]) (fun b => w.heap.size < b) (f.getD i pm0) w.heap.size (0 + i * 4)
        have hbk := setL_blk (o := j * 4) [.string gn, .slice u1 gp.length gp.length, .slice u2 (blen gb) (blen gb), .slice u3 (tlen gs) (tlen gs)] hob1
        by_cases hj' : i < j
        · have h1 := PT_of (w' := w1) (fun q v _ hv => Ex.at hb1 hv) (fun b _ hlt' => hb1.block b hlt') (KI.out i hj')
          exact PT_of (fun q v hq hv => by rw [blk_cell hbk, setA_out _ _ _ _ (Or.inl (by omega)), ← blk_cell hob1]; exact hv) hQ h1
        · have e : j = i := by omega
          subst e
          have hsz := HCS.out
          have hc : ∀ q v, ([.string gn, .slice u1 gp.length gp.length, .slice u2 (blen gb) (blen gb), .slice u3 (tlen gs) (tlen gs)] : List Value)[q]? = some v → (setL w1 w.heap.size (j * 4) [.string gn, .slice u1 gp.length gp.length, .slice u2 (blen gb) (blen gb), .slice u3 (tlen gs) (tlen gs)]).cell? ⟨w.heap.size, 0 + j * 4 + q, none⟩ = some v := fun q v hq => by
            have hql : q < 4 := by
              rcases Nat.lt_or_ge q 4 with h | h
              · exact h
              · rw [List.getElem?_eq_none (by simpa using h)] at hq; cases hq
            rw [blk_cell hbk, Nat.zero_add]
            exact setA_in _ _ _ _ _ hq (by omega)
          rw [HG.out]
          exact ⟨hc 0 _ rfl, ⟨u1, _, hc 1 _ rfl, Nat.le_refl _, XS_ks (XS_mono Y1.out fun b _ hb => by have : wr.heap.size ≤ b := hb; show w.heap.size < b; omega) hQ⟩, ⟨u2, _, hc 2 _ rfl, BS_ks (BS_mono Y2.out fun b _ hb => by have : wr.heap.size ≤ b := hb; show w.heap.size < b; omega) hQ⟩, ⟨u3, _, hc 3 _ rfl, MS_ks (MS_mono Y3.out fun b _ hb => by have : wr.heap.size ≤ b := hb; show w.heap.size < b; omega) hQ⟩⟩
      case measure => simp [intOf]; omega
    · have HE : Hid (∀ i, i < f.length → PT wr (fun b => w.heap.size < b) (f.getD i pm0) w.heap.size (0 + i * 4)) := fun i hi => KI.out i (by omega)
      clear KI
      go_wp2_with fail
      go_ret
      exact ⟨_, rfl, Or.inr ⟨w.heap.size, 0, rfl, Nat.le_refl _, fun i hi => PT_mono (fun b _ hb => Nat.le_of_lt hb) (HE.out i hi)⟩, X.out⟩

theorem toPureS_any (f : List PM) (a : Option Addr) (c : Nat) (w : World) (hl : f.length ≤ 1000000000) (hs : PSkTo f f.length) (hT : QA w 0 f a) :
    Calls Tryz.prog 8 #[.slice a f.length c] w fun e w' => ∃ a', e = .returned (.slice a' f.length f.length) ∧ QA w' w.heap.size f a' ∧ Ex w w' := by
  refine toPureS_by f a c w hl hT fun j hj a1 k1 a2 k2 a3 k3 w' hx y1 y2 y3 => ?_
  obtain ⟨g1, ⟨g2, g3⟩, g4, g5⟩ := hs j hj
  exact toPure_by _ _ a1 k1 _ a2 k2 _ a3 k3 w' (by omega) y1 (fun w4 hx4 => toBody_all _ _ a2 k2 _ a3 k3 w4 (Nat.lt_succ_self _) (by omega) g3 (by omega) g5 (BA_below y2 hx4) (MA_below y3 hx4))

end Go.Proofs.YtgpdnoghlommeaaGreatDoor
