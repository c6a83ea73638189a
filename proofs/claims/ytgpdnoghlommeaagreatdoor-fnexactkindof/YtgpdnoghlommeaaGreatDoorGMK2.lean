/- Walks: texts and terms of the laws turned into the program's, in blocks that may be written. A byte as a text. Walks: numbers, texts and terms written over. Walks: terms written over. -/
import Derived.Test.YtgpdnoghlommeaaGreatDoorGTO1
import Derived.Test.YtgpdnoghlommeaaGreatDoorGBD3
import Derived.Test.YtgpdnoghlommeaaGreatDoorGD3
import Derived.Laws.Strings
import Derived.Test.YtgpdnoghlommeaaGreatDoorGKS1
namespace Go.Proofs.YtgpdnoghlommeaaGreatDoor

open Go.RowKit Go.Deep

attribute [local go_sem ↓] Go.wp_at_zero Go.wp_at_succ

/-- A block that may be written. -/
def Unf (w : World) (b : Nat) : Prop := ∃ cur T, w.heap[b]? = some (.cells cur T (0, 0))
theorem Unf.of {w : World} {b : Nat} {cur : Array Value} {T : TypeId} (h : w.heap[b]? = some (.cells cur T (0, 0))) : Unf w b := ⟨cur, T, h⟩
theorem Unf.eq {w w' : World} {b : Nat} (h : Unf w b) (e : w'.heap[b]? = w.heap[b]?) : Unf w' b := by
  obtain ⟨cur, T, h⟩ := h
  exact ⟨cur, T, e.trans h⟩
theorem Unf.lt {w : World} {b : Nat} (h : Unf w b) : b < w.heap.size := by
  obtain ⟨cur, T, h⟩ := h
  exact lt_of_block h
theorem Unf.ex {w w' : World} {b : Nat} (h : Unf w b) (hx : Ex w w') : Unf w' b := h.eq (hx.block b h.lt)
theorem Unf.free {w : World} {b : Nat} (h : Unf w b) (i : Nat) : w.frozen? ⟨b, i, none⟩ = false := by
  obtain ⟨cur, T, h⟩ := h
  exact blk_free h i
theorem Unf.set {w : World} {b : Nat} (h : Unf w b) (g i : Nat) (v : Value) : Unf (w.setCell ⟨g, i, none⟩ v) b := by
  by_cases hb : b = g
  · obtain ⟨cur, T, h⟩ := h
    subst hb
    exact ⟨_, T, blk_set h v⟩
  · exact h.eq (Below.heap_setCell _ _ _ _ hb)

def PU (w : World) (lo : Nat) (p : List Int) (a : Option Addr) : Prop := PS w (fun b => lo ≤ b ∧ Unf w b) p a
def XU (w : World) (lo : Nat) (p : List ByteArray) (a : Option Addr) : Prop := XS w (fun b => lo ≤ b ∧ Unf w b) p a
def MU (w : World) (lo : Nat) (f : TM) (a : Option Addr) : Prop := MS w (fun b => lo ≤ b ∧ Unf w b) f a
def BU (w : World) (lo : Nat) (f : BD) (a : Option Addr) : Prop := BS w (fun b => lo ≤ b ∧ Unf w b) f a
def QU (w : World) (lo : Nat) (f : List PM) (a : Option Addr) : Prop := QS w (fun b => lo ≤ b ∧ Unf w b) f a
theorem PU_kp {w w' : World} {lo : Nat} {p : List Int} {a : Option Addr} (h : PU w lo p a) (hk : Kp lo w w') : PU w' lo p a :=
  PS_ks (PS_mono h fun b hb hs => (⟨hs.1, hs.2.eq (hk.block b hs.1 hb)⟩ : lo ≤ b ∧ Unf w' b)) fun b hb hl => hk.block b hb.1 hl
theorem PU_below {w w' : World} {lo : Nat} {p : List Int} {a : Option Addr} (h : PU w lo p a) (hb : Ex w w') : PU w' lo p a := PU_kp h (Kp.of_below hb lo)
theorem PU_lo {w : World} {lo lo' : Nat} {p : List Int} {a : Option Addr} (h : PU w lo p a) (hl : lo' ≤ lo) : PU w lo' p a := PS_mono h fun _ _ hb => ⟨Nat.le_trans hl hb.1, hb.2⟩
theorem PU.a {w : World} {lo : Nat} {p : List Int} {a : Option Addr} (h : PU w lo p a) : PA w lo p a := PS_mono h fun _ _ hb => hb.1
theorem XU_kp {w w' : World} {lo : Nat} {p : List ByteArray} {a : Option Addr} (h : XU w lo p a) (hk : Kp lo w w') : XU w' lo p a :=
  XS_ks (XS_mono h fun b hb hs => (⟨hs.1, hs.2.eq (hk.block b hs.1 hb)⟩ : lo ≤ b ∧ Unf w' b)) fun b hb hl => hk.block b hb.1 hl
theorem XU_below {w w' : World} {lo : Nat} {p : List ByteArray} {a : Option Addr} (h : XU w lo p a) (hb : Ex w w') : XU w' lo p a := XU_kp h (Kp.of_below hb lo)
theorem XU_lo {w : World} {lo lo' : Nat} {p : List ByteArray} {a : Option Addr} (h : XU w lo p a) (hl : lo' ≤ lo) : XU w lo' p a := XS_mono h fun _ _ hb => ⟨Nat.le_trans hl hb.1, hb.2⟩
theorem XU.a {w : World} {lo : Nat} {p : List ByteArray} {a : Option Addr} (h : XU w lo p a) : XA w lo p a := XS_mono h fun _ _ hb => hb.1
theorem MU_kp {w w' : World} {lo : Nat} {p : TM} {a : Option Addr} (h : MU w lo p a) (hk : Kp lo w w') : MU w' lo p a :=
  MS_ks (MS_mono h fun b hb hs => (⟨hs.1, hs.2.eq (hk.block b hs.1 hb)⟩ : lo ≤ b ∧ Unf w' b)) fun b hb hl => hk.block b hb.1 hl
theorem MU_below {w w' : World} {lo : Nat} {p : TM} {a : Option Addr} (h : MU w lo p a) (hb : Ex w w') : MU w' lo p a := MU_kp h (Kp.of_below hb lo)
theorem MU_lo {w : World} {lo lo' : Nat} {p : TM} {a : Option Addr} (h : MU w lo p a) (hl : lo' ≤ lo) : MU w lo' p a := MS_mono h fun _ _ hb => ⟨Nat.le_trans hl hb.1, hb.2⟩
theorem MU.a {w : World} {lo : Nat} {p : TM} {a : Option Addr} (h : MU w lo p a) : MA w lo p a := MS_mono h fun _ _ hb => hb.1
theorem BU_kp {w w' : World} {lo : Nat} {p : BD} {a : Option Addr} (h : BU w lo p a) (hk : Kp lo w w') : BU w' lo p a :=
  BS_ks (BS_mono h fun b hb hs => (⟨hs.1, hs.2.eq (hk.block b hs.1 hb)⟩ : lo ≤ b ∧ Unf w' b)) fun b hb hl => hk.block b hb.1 hl
theorem BU_below {w w' : World} {lo : Nat} {p : BD} {a : Option Addr} (h : BU w lo p a) (hb : Ex w w') : BU w' lo p a := BU_kp h (Kp.of_below hb lo)
theorem BU_lo {w : World} {lo lo' : Nat} {p : BD} {a : Option Addr} (h : BU w lo p a) (hl : lo' ≤ lo) : BU w lo' p a := BS_mono h fun _ _ hb => ⟨Nat.le_trans hl hb.1, hb.2⟩
theorem BU.a {w : World} {lo : Nat} {p : BD} {a : Option Addr} (h : BU w lo p a) : BA w lo p a := BS_mono h fun _ _ hb => hb.1
theorem QU_kp {w w' : World} {lo : Nat} {p : List PM} {a : Option Addr} (h : QU w lo p a) (hk : Kp lo w w') : QU w' lo p a :=
  QS_ks (QS_mono h fun b hb hs => (⟨hs.1, hs.2.eq (hk.block b hs.1 hb)⟩ : lo ≤ b ∧ Unf w' b)) fun b hb hl => hk.block b hb.1 hl
theorem QU_below {w w' : World} {lo : Nat} {p : List PM} {a : Option Addr} (h : QU w lo p a) (hb : Ex w w') : QU w' lo p a := QU_kp h (Kp.of_below hb lo)
theorem QU_lo {w : World} {lo lo' : Nat} {p : List PM} {a : Option Addr} (h : QU w lo p a) (hl : lo' ≤ lo) : QU w lo' p a := QS_mono h fun _ _ hb => ⟨Nat.le_trans hl hb.1, hb.2⟩
theorem QU.a {w : World} {lo : Nat} {p : List PM} {a : Option Addr} (h : QU w lo p a) : QA w lo p a := QS_mono h fun _ _ hb => hb.1
theorem IB.pu {w : World} {b lo : Nat} {xs : List Int} (h : IB w b xs) (hl : lo ≤ b) : PU w lo xs (some ⟨b, 0, none⟩) := by
  obtain ⟨cur, h1, h2, h3⟩ := h
  refine Or.inr ⟨b, 0, rfl, ⟨hl, Unf.of h1⟩, fun i hi => ?_⟩
  simp [World.cell?, h1, h3 i hi]

theorem utoInts_any (p : List Int) (a : Option Addr) (c : Nat) (w : World) (hl : p.length ≤ 1000000000) (hP : PA w 0 p a) :
    Calls Tryz.prog 133 #[.slice a p.length c] w fun e w' => ∃ a', e = .returned (.slice a' p.length p.length) ∧ PU w' w.heap.size p a' ∧ Ex w w' :=
  (toIntS_any p a c 0 w hl hP).mono fun _ _ ⟨h1, h2, h3⟩ => ⟨_, h1, h2.pu (Nat.le_refl _), h3⟩

set_option maxRecDepth 100000 in
set_option maxHeartbeats 2000000 in
theorem utoTexts_any (xs : List ByteArray) (a : Option Addr) (c : Nat) (w : World) (hl : xs.length ≤ 1000000000) (hP : XA w 0 xs a) :
    Calls Tryz.prog 55 #[.slice a xs.length c] w fun e w' => ∃ a', e = .returned (.slice a' xs.length xs.length) ∧ XU w' w.heap.size xs a' ∧ Ex w w' := by
  have P : Hid (∀ w', Ex w w' → XA w' 0 xs a) := fun _ h => XA_below hP h
  clear hP
  obtain ⟨i0, hi, hz0, hz1, hz2⟩ := info_parts Tryz.info9
  have hmk : ∀ w : World, (Instr.makeSlice 40 (.int .i64 (xs.length : Int)) (.int .i64 (xs.length : Int))).run Tryz.prog w = .ok (.slice (some ⟨w.heap.size, 0, none⟩) xs.length xs.length) (w.alloc (.cells (madeCells #[.string ⟨#[]⟩] xs.length) 9)) := fun w => by
    have := run_make (P := Tryz.prog) w 40 9 i0 _ Tryz.underlying40 hi hz0 .i64 .i64 (xs.length : Int) (xs.length : Int) (by omega) (by omega) (by rw [hz2]; omega) (by omega)
    rw [hz1] at this
    simpa [Value.cells] using this
  clear hz0 hz1 hz2 hi
  go_enter Tryz.func55, Tryz.ntmps55
  go_wp2_with fail
  go_loopw [4] (fun i wr => ∃ (k : Nat) (cur : Array Value), k ≤ xs.length ∧ i = .int .i64 k ∧ Ex w wr ∧ wr.heap[w.heap.size]? = some (.cells cur 9 (0, 0)) ∧ cur.size = xs.length ∧ (∀ j, j < k → cur[j]? = some (.string (xs.getD j ⟨#[]⟩)))) (fun i _ => xs.length - (intOf i).toNat)
  case atStart => exact ⟨0, madeCells #[.string ⟨#[]⟩] xs.length, Nat.zero_le _, rfl, Ex.new _ _, heap_alloc_new _ _, size_madeCells _ _, fun j hj => by omega⟩
  case round =>
    obtain ⟨k, cur, hk, rfl, hx, hob, hcs, hkids⟩ := hrel
    have KI : Hid _ := hkids
    have HCS : Hid (cur.size = xs.length) := hcs
    clear hkids hcs
    by_cases hlt : k < xs.length
    · obtain ⟨b, o, rfl, hbs, _, hkk⟩ := XA_at (P.out wr hx) (by omega)
      have hc1 := hkk k hlt
      obtain ⟨t, ht⟩ : ∃ t, xs.getD k ⟨#[]⟩ = t := ⟨_, rfl⟩
      rw [ht] at hc1
      have HT : Hid (xs.getD k ⟨#[]⟩ = t) := ht
      clear hkk ht
      have cc : wr.cell? ⟨w.heap.size, k, none⟩ = some (cur[k]'(by have := HCS.out; omega)) := by simp [World.cell?, hob]
      have cf : wr.frozen? ⟨w.heap.size, k, none⟩ = false := by simp [World.frozen?, hob]
      go_wp2_with fail
      go_roundw
      case rel =>
        refine ⟨k + 1, cur.setIfInBounds k (.string t), by omega, by go_num, hx.set (Nat.le_refl _) _, blk_set hob _, by simp [HCS.out], fun j hj => ?_⟩
        by_cases hj' : j < k
        · rw [Array.getElem?_setIfInBounds_ne (by omega)]; exact KI.out j hj'
        · have e : j = k := by omega
          subst e
          rw [Array.getElem?_setIfInBounds_self, HT.out, if_pos (by have := HCS.out; omega)]
      case measure => simp [intOf]; omega
    · go_wp2_with fail
      go_ret
      exact ⟨_, rfl, Or.inr ⟨w.heap.size, 0, rfl, ⟨Nat.le_refl _, Unf.of hob⟩, fun i hi => by rw [blk_cell hob, Nat.zero_add]; exact KI.out i (by omega)⟩, hx⟩

set_option maxRecDepth 100000 in
set_option maxHeartbeats 4000000 in
theorem utoTermS_by (f : TM) (a : Option Addr) (c : Nat) (w : World) (hl : tlen f ≤ 1000000000) (hz : TSm f) (hT : MA w 0 f a)
    (hK : ∀ j, j < tlen f → ∀ (pa : Option Addr) (pc : Nat) (a' : Option Addr) (c' : Nat) (w' : World), Ex w w' → PA w' 0 (tpath f j) pa → MA w' 0 (tkid f j) a' → Calls Tryz.prog 109 #[.agg #[.int .i64 (tkind f j), .int .i64 (tnum f j), .string (tname f j), .slice pa (tpath f j).length pc, .slice a' (tlen (tkid f j)) c']] w' fun e w'' => ∃ p2 a2, e = .returned (.agg #[.int .i64 (tkind f j), .int .i64 (tnum f j), .string (tname f j), .slice p2 (tpath f j).length (tpath f j).length, .slice a2 (tlen (tkid f j)) (tlen (tkid f j))]) ∧ PU w'' w'.heap.size (tpath f j) p2 ∧ MU w'' w'.heap.size (tkid f j) a2 ∧ Ex w' w'') :
    Calls Tryz.prog 81 #[.slice a (tlen f) c] w fun e w' => ∃ a', e = .returned (.slice a' (tlen f) (tlen f)) ∧ MU w' w.heap.size f a' ∧ Ex w w' := by
  have T : Hid (∀ w', Ex w w' → MA w' 0 f a) := fun _ h => MA_below hT h
  have I : Hid _ := hK
  have ZS : Hid (TSm f) := hz
  clear hT hK hz
  obtain ⟨i0, hi, hz0, hz1, hz2⟩ := info_parts Tryz.info90
  have hmk : ∀ w : World, (Instr.makeSlice 57 (.int .i64 (tlen f : Int)) (.int .i64 (tlen f : Int))).run Tryz.prog w = .ok (.slice (some ⟨w.heap.size, 0, none⟩) (tlen f) (tlen f)) (w.alloc (.cells (madeCells #[.int .i64 0, .int .i64 0, .string ⟨#[]⟩, .slice none 0 0, .slice none 0 0] (tlen f * 5)) 90)) := fun w => by
    have := run_make (P := Tryz.prog) w 57 90 i0 _ Tryz.underlying57 hi hz0 .i64 .i64 (tlen f : Int) (tlen f : Int) (by omega) (by omega) (by rw [hz2]; omega) (by omega)
    rw [hz1] at this
    simpa [Value.cells] using this
  clear hz0 hz1 hz2 hi
  go_enter Tryz.func81, Tryz.ntmps81
  go_wp2_with fail
  go_loopw [4] (fun i wr => ∃ (k : Nat) (cur : Array Value), k ≤ tlen f ∧ i = .int .i64 k ∧ Ex w wr ∧ wr.heap[w.heap.size]? = some (.cells cur 90 (0, 0)) ∧ cur.size = tlen f * 5 ∧ (∀ j, j < k → MT wr (fun b => w.heap.size < b ∧ Unf wr b) f j w.heap.size (0 + j * 5))) (fun i _ => tlen f - (intOf i).toNat)
  case atStart => exact ⟨0, madeCells #[.int .i64 0, .int .i64 0, .string ⟨#[]⟩, .slice none 0 0, .slice none 0 0] (tlen f * 5), Nat.zero_le _, rfl, Ex.new _ _, heap_alloc_new _ _, size_madeCells _ _, fun j hj => by omega⟩
  case round =>
    obtain ⟨j, cur, hk, rfl, hx, hob, hcs, hkids⟩ := hrel
    have KI : Hid _ := hkids
    have HCS : Hid (cur.size = tlen f * 5) := hcs
    have X : Hid (Ex w wr) := hx
    have OB : Hid (wr.heap[w.heap.size]? = some (.cells cur 90 (0, 0))) := hob
    clear hkids hcs hx hob
    by_cases hlt : j < tlen f
    · obtain ⟨b, o, rfl, _, hbs, hkk⟩ := MA_at (T.out wr X.out) (by omega)
      obtain ⟨e0, e1, e2, ⟨pa, pc, e3, hp'⟩, a', c', e4, hm'⟩ := hkk j hlt
      have HI : Hid _ := I.out j hlt pa pc a' c' wr X.out hp'.1 hm'
      have SZP : Hid ((tpath f j).length ≤ 9223372036854775807) := by
        have := (TSm_kid ZS.out j hlt).1
        show _ ≤ _
        omega
      clear hk hkk hp' hm'
      go_wp2_with fail
      refine Calls.mono HI.out ?_
      rintro e w1 ⟨p2, a2, rfl, yp, ym, hb1⟩
      have hob1 := hb1.blk OB.out
      have cc0 : w1.cell? ⟨w.heap.size, j * 5, none⟩ = some (cur[j * 5]'(by have := HCS.out; omega)) := by simp [World.cell?, hob1]
      have cc1 : w1.cell? ⟨w.heap.size, j * 5 + 1, none⟩ = some (cur[j * 5 + 1]'(by have := HCS.out; omega)) := by simp [World.cell?, hob1]
      have cc2 : w1.cell? ⟨w.heap.size, j * 5 + 2, none⟩ = some (cur[j * 5 + 2]'(by have := HCS.out; omega)) := by simp [World.cell?, hob1]
      have cc3 : w1.cell? ⟨w.heap.size, j * 5 + 3, none⟩ = some (cur[j * 5 + 3]'(by have := HCS.out; omega)) := by simp [World.cell?, hob1]
      have cc4 : w1.cell? ⟨w.heap.size, j * 5 + 4, none⟩ = some (cur[j * 5 + 4]'(by have := HCS.out; omega)) := by simp [World.cell?, hob1]
      have cf0 : w1.frozen? ⟨w.heap.size, j * 5, none⟩ = false := by simp [World.frozen?, hob1]
      have cf1 : w1.frozen? ⟨w.heap.size, j * 5 + 1, none⟩ = false := by simp [World.frozen?, hob1]
      have cf2 : w1.frozen? ⟨w.heap.size, j * 5 + 2, none⟩ = false := by simp [World.frozen?, hob1]
      have cf3 : w1.frozen? ⟨w.heap.size, j * 5 + 3, none⟩ = false := by simp [World.frozen?, hob1]
      have cf4 : w1.frozen? ⟨w.heap.size, j * 5 + 4, none⟩ = false := by simp [World.frozen?, hob1]
      have zr : w.heap.size < wr.heap.size := lt_of_block OB.out
      have B1 : Hid _ := hb1
      have OB1 : Hid _ := hob1
      have YP : Hid (PU w1 wr.heap.size (tpath f j) p2) := yp
      have YM : Hid (MU w1 wr.heap.size (tkid f j) a2) := ym
      clear yp ym
      clear hob1 hb1 HI
      go_wp2_with fail
      go_roundw
      case rel =>
        have hb1 := B1.out
        have hob1 := OB1.out
        have hQ : Ks (fun b => w.heap.size < b) w1 (setL w1 w.heap.size (j * 5) [.int .i64 (tkind f j), .int .i64 (tnum f j), .string (tname f j), .slice p2 (tpath f j).length (tpath f j).length, .slice a2 (tlen (tkid f j)) (tlen (tkid f j))]) := fun b hb _ => setL_other _ (by have : w.heap.size < b := hb; omega)
        refine ⟨j + 1, setA cur (j * 5) [.int .i64 (tkind f j), .int .i64 (tnum f j), .string (tname f j), .slice p2 (tpath f j).length (tpath f j).length, .slice a2 (tlen (tkid f j)) (tlen (tkid f j))], by omega, by go_num, setL_ex [.int .i64 (tkind f j), .int .i64 (tnum f j), .string (tname f j), .slice p2 (tpath f j).length (tpath f j).length, .slice a2 (tlen (tkid f j)) (tlen (tkid f j))] (X.out.trans hb1) (Nat.le_refl _), setL_blk [.int .i64 (tkind f j), .int .i64 (tnum f j), .string (tname f j), .slice p2 (tpath f j).length (tpath f j).length, .slice a2 (tlen (tkid f j)) (tlen (tkid f j))] hob1, by rw [setA_size]; exact HCS.out, fun i hi => ?_⟩
        show MT (setL w1 w.heap.size (j * 5) [.int .i64 (tkind f j), .int .i64 (tnum f j), .string (tname f j), .slice p2 (tpath f j).length (tpath f j).length, .slice a2 (tlen (tkid f j)) (tlen (tkid f j))]) (fun b => w.heap.size < b ∧ Unf (setL w1 w.heap.size (j * 5) [.int .i64 (tkind f j), .int .i64 (tnum f j), .string (tname f j), .slice p2 (tpath f j).length (tpath f j).length, .slice a2 (tlen (tkid f j)) (tlen (tkid f j))]) b) f i w.heap.size (0 + i * 5)
        have hbk := setL_blk (o := j * 5) [.int .i64 (tkind f j), .int .i64 (tnum f j), .string (tname f j), .slice p2 (tpath f j).length (tpath f j).length, .slice a2 (tlen (tkid f j)) (tlen (tkid f j))] hob1
        have hU : ∀ b, w.heap.size < b → Unf w1 b → Unf (setL w1 w.heap.size (j * 5) [.int .i64 (tkind f j), .int .i64 (tnum f j), .string (tname f j), .slice p2 (tpath f j).length (tpath f j).length, .slice a2 (tlen (tkid f j)) (tlen (tkid f j))]) b := fun b hb hu => hu.eq (setL_other _ (by omega))
        by_cases hj' : i < j
        · have h1 := MT_of (w' := w1) (fun q v _ hv => Ex.at hb1 hv) (fun b _ hlt' => hb1.block b hlt') (KI.out i hj')
          exact MT_mono (fun b hb hs => ⟨hs.1, hU b hs.1 (hs.2.ex hb1)⟩) (MT_of (fun q v hq hv => by rw [blk_cell hbk, setA_out _ _ _ _ (Or.inl (by omega)), ← blk_cell hob1]; exact hv) (fun b hb hl => hQ b hb.1 hl) h1)
        · have e : j = i := by omega
          subst e
          have hsz := HCS.out
          have hc : ∀ q v, ([.int .i64 (tkind f j), .int .i64 (tnum f j), .string (tname f j), .slice p2 (tpath f j).length (tpath f j).length, .slice a2 (tlen (tkid f j)) (tlen (tkid f j))] : List Value)[q]? = some v → (setL w1 w.heap.size (j * 5) [.int .i64 (tkind f j), .int .i64 (tnum f j), .string (tname f j), .slice p2 (tpath f j).length (tpath f j).length, .slice a2 (tlen (tkid f j)) (tlen (tkid f j))]).cell? ⟨w.heap.size, 0 + j * 5 + q, none⟩ = some v := fun q v hq => by
            have hql : q < 5 := by
              rcases Nat.lt_or_ge q 5 with h | h
              · exact h
              · rw [List.getElem?_eq_none (by simpa using h)] at hq; cases hq
            rw [blk_cell hbk, Nat.zero_add]
            exact setA_in _ _ _ _ _ hq (by omega)
          exact ⟨hc 0 _ rfl, hc 1 _ rfl, hc 2 _ rfl, ⟨p2, _, hc 3 _ rfl, PS_ks (PS_mono YP.out fun b _ hb => by have h1 : wr.heap.size ≤ b := hb.1; exact ⟨by omega, hU b (by omega) hb.2⟩) (fun b hb hl => hQ b hb.1 hl), Nat.le_refl _, SZP.out⟩, a2, _, hc 4 _ rfl, MS_ks (MS_mono YM.out fun b _ hb => by have h1 : wr.heap.size ≤ b := hb.1; exact ⟨by omega, hU b (by omega) hb.2⟩) (fun b hb hl => hQ b hb.1 hl)⟩
      case measure => simp [intOf]; omega
    · have HE : Hid (∀ i, i < tlen f → MT wr (fun b => w.heap.size < b ∧ Unf wr b) f i w.heap.size (0 + i * 5)) := fun i hi => KI.out i (by omega)
      clear KI
      go_wp2_with fail
      go_ret
      exact ⟨_, rfl, MS_mk ⟨Nat.le_refl _, Unf.of OB.out⟩ fun i hi => MT_mono (fun b _ hb => ⟨Nat.le_of_lt hb.1, hb.2⟩) (HE.out i hi), X.out⟩

def utoTerm_byP (k n : Int) (s : ByteArray) (p : List Int) (f : TM) (w : World) (e : Ending) (w' : World) : Prop := ∃ p2 a2, e = .returned (.agg #[.int .i64 k, .int .i64 n, .string s, .slice p2 p.length p.length, .slice a2 (tlen f) (tlen f)]) ∧ PU w' w.heap.size p p2 ∧ MU w' w.heap.size f a2 ∧ Ex w w'
set_option maxRecDepth 100000 in
set_option maxHeartbeats 4000000 in
theorem utoTerm_by (k n : Int) (s : ByteArray) (p : List Int) (pa : Option Addr) (pc : Nat) (f : TM) (a : Option Addr) (c : Nat) (w : World) (hp : p.length ≤ 1000000000) (hP : PA w 0 p pa) (hK : ∀ w', Ex w w' → Calls Tryz.prog 81 #[.slice a (tlen f) c] w' fun e w'' => ∃ a', e = .returned (.slice a' (tlen f) (tlen f)) ∧ MU w'' w'.heap.size f a' ∧ Ex w' w'') :
    Calls Tryz.prog 109 #[.agg #[.int .i64 k, .int .i64 n, .string s, .slice pa p.length pc, .slice a (tlen f) c]] w (utoTerm_byP k n s p f w) := by
  have H_hP : Hid _ := hP
  clear hP
  have H_hK : Hid _ := hK
  clear hK
  go_enter Tryz.func109, Tryz.ntmps109
  go_wp2_with fail
  have hx0 : Ex w (((w.alloc (.cells #[.int .i64 k, .int .i64 n, .string s, .slice pa p.length pc, .slice a (tlen f) c] 162)).alloc (.cells #[.int .i64 0, .int .i64 0, .string ⟨#[]⟩, .slice none 0 0, .slice none 0 0] 90)).alloc (.cells #[.int .i64 k, .int .i64 n, .string s, .slice none 0 0, .slice none 0 0] 90)) := ((Ex.new _ _).alloc _).alloc _
  have z0 : (((w.alloc (.cells #[.int .i64 k, .int .i64 n, .string s, .slice pa p.length pc, .slice a (tlen f) c] 162)).alloc (.cells #[.int .i64 0, .int .i64 0, .string ⟨#[]⟩, .slice none 0 0, .slice none 0 0] 90)).alloc (.cells #[.int .i64 k, .int .i64 n, .string s, .slice none 0 0, .slice none 0 0] 90)).heap.size = w.heap.size + 3 := by simp only [World.size_alloc]
  have hA0 : (((w.alloc (.cells #[.int .i64 k, .int .i64 n, .string s, .slice pa p.length pc, .slice a (tlen f) c] 162)).alloc (.cells #[.int .i64 0, .int .i64 0, .string ⟨#[]⟩, .slice none 0 0, .slice none 0 0] 90)).alloc (.cells #[.int .i64 k, .int .i64 n, .string s, .slice none 0 0, .slice none 0 0] 90)).heap[w.heap.size]? = some (.cells #[.int .i64 k, .int .i64 n, .string s, .slice pa p.length pc, .slice a (tlen f) c] 162 (0, 0)) := (((Ex.new _ _).alloc _).blk (heap_alloc_new _ _))
  have hR0 : (((w.alloc (.cells #[.int .i64 k, .int .i64 n, .string s, .slice pa p.length pc, .slice a (tlen f) c] 162)).alloc (.cells #[.int .i64 0, .int .i64 0, .string ⟨#[]⟩, .slice none 0 0, .slice none 0 0] 90)).alloc (.cells #[.int .i64 k, .int .i64 n, .string s, .slice none 0 0, .slice none 0 0] 90)).heap[w.heap.size + 1]? = some (.cells #[.int .i64 0, .int .i64 0, .string ⟨#[]⟩, .slice none 0 0, .slice none 0 0] 90 (0, 0)) := ((Ex.new _ _).blk (heap_alloc_at _ _ (by simp only [World.size_alloc])))
  have hO0 : (((w.alloc (.cells #[.int .i64 k, .int .i64 n, .string s, .slice pa p.length pc, .slice a (tlen f) c] 162)).alloc (.cells #[.int .i64 0, .int .i64 0, .string ⟨#[]⟩, .slice none 0 0, .slice none 0 0] 90)).alloc (.cells #[.int .i64 k, .int .i64 n, .string s, .slice none 0 0, .slice none 0 0] 90)).heap[w.heap.size + 1 + 1]? = some (.cells #[.int .i64 k, .int .i64 n, .string s, .slice none 0 0, .slice none 0 0] 90 (0, 0)) := heap_alloc_at _ _ (by simp only [World.size_alloc])
  obtain ⟨W0, hW0⟩ : ∃ W0, W0 = (((w.alloc (.cells #[.int .i64 k, .int .i64 n, .string s, .slice pa p.length pc, .slice a (tlen f) c] 162)).alloc (.cells #[.int .i64 0, .int .i64 0, .string ⟨#[]⟩, .slice none 0 0, .slice none 0 0] 90)).alloc (.cells #[.int .i64 k, .int .i64 n, .string s, .slice none 0 0, .slice none 0 0] 90)) := ⟨_, rfl⟩
  rw [← hW0] at hx0 z0 hA0 hR0 hO0 ⊢
  clear hW0
  have X0 : Hid (Ex w W0) := hx0
  have BA0 : Hid _ := hA0
  have BR0 : Hid _ := hR0
  have BO0 : Hid _ := hO0
  have Z0 : Hid (W0.heap.size = w.heap.size + 3) := z0
  clear hx0 hA0 hR0 hO0 z0
  refine (utoInts_any p pa pc W0 hp (PA_below H_hP.out X0.out)).mono ?_
  rintro e w1 ⟨p2, rfl, y_p, hb1⟩
  have hxa1 : Ex w w1 := X0.out.trans hb1
  have hA1 := hb1.blk BA0.out
  have hR1 := hb1.blk BR0.out
  have hO1 := hb1.blk BO0.out
  have hsz1 := hb1.size
  have ca4 : w1.cell? ⟨w.heap.size, 4, none⟩ = some (.slice a (tlen f) c) := blk_cell hA1 4
  have co3 : w1.cell? ⟨w.heap.size + 1 + 1, 3, none⟩ = some (.slice none 0 0) := blk_cell hO1 3
  have fo3 := blk_free hO1 3
  have qO1 : (w1.setCell ⟨w.heap.size + 1 + 1, 3, none⟩ (.slice p2 p.length p.length)).heap[w.heap.size + 1 + 1]? = some (.cells #[.int .i64 k, .int .i64 n, .string s, .slice p2 p.length p.length, .slice none 0 0] 90 (0, 0)) := (blk_set hO1 (.slice p2 p.length p.length))
  have qR1 : (w1.setCell ⟨w.heap.size + 1 + 1, 3, none⟩ (.slice p2 p.length p.length)).heap[w.heap.size + 1]? = some (.cells #[.int .i64 0, .int .i64 0, .string ⟨#[]⟩, .slice none 0 0, .slice none 0 0] 90 (0, 0)) := (blk_off hR1 (by omega) (.slice p2 p.length p.length))
  have qA1 : (w1.setCell ⟨w.heap.size + 1 + 1, 3, none⟩ (.slice p2 p.length p.length)).heap[w.heap.size]? = some (.cells #[.int .i64 k, .int .i64 n, .string s, .slice pa p.length pc, .slice a (tlen f) c] 162 (0, 0)) := (blk_off hA1 (by omega) (.slice p2 p.length p.length))
  have qx1 : Ex w (w1.setCell ⟨w.heap.size + 1 + 1, 3, none⟩ (.slice p2 p.length p.length)) := (hxa1.set (by show w.heap.size ≤ w.heap.size + 1 + 1; omega) (.slice p2 p.length p.length))
  have qk1 : Kp (w.heap.size + 3) w1 (w1.setCell ⟨w.heap.size + 1 + 1, 3, none⟩ (.slice p2 p.length p.length)) := ((Kp.refl (w.heap.size + 3) _).set (Or.inl (by show w.heap.size + 1 + 1 < w.heap.size + 3; omega)) (.slice p2 p.length p.length))
  have yb_p1 := PU_kp (PU_lo y_p (by have := Z0.out; omega)) qk1
  have qz1 : w.heap.size + 3 ≤ (w1.setCell ⟨w.heap.size + 1 + 1, 3, none⟩ (.slice p2 p.length p.length)).heap.size := by (try simp only [World.size_setCell]); have := Z0.out; omega
  obtain ⟨W1, hW1⟩ : ∃ W, W = (w1.setCell ⟨w.heap.size + 1 + 1, 3, none⟩ (.slice p2 p.length p.length)) := ⟨_, rfl⟩
  rw [← hW1] at qO1 qR1 qA1 qx1 qz1 yb_p1
  have X1 : Hid (Ex w W1) := qx1
  have BA1 : Hid _ := qA1
  have BR1 : Hid _ := qR1
  have BO1 : Hid _ := qO1
  have Z1 : Hid (w.heap.size + 3 ≤ W1.heap.size) := qz1
  have HW1 : Hid (W1 = (w1.setCell ⟨w.heap.size + 1 + 1, 3, none⟩ (.slice p2 p.length p.length))) := hW1
  skip
  have M_p : Hid _ := yb_p1
  clear hW1 qO1 qR1 qA1 qx1 qz1 qk1 hxa1 hA1 hR1 hO1 hsz1 hb1 BA0 BR0 BO0 X0 Z0 yb_p1  y_p
  go_wp2_with fail
  rw [← HW1.out]
  clear HW1 ca4 co3 fo3
  refine (H_hK.out _ X1.out).mono ?_
  rintro e w2 ⟨a2, rfl, y_f, hb2⟩
  have hxa2 : Ex w w2 := X1.out.trans hb2
  have hA2 := hb2.blk BA1.out
  have hR2 := hb2.blk BR1.out
  have hO2 := hb2.blk BO1.out
  have hsz2 := hb2.size
  have ya_p2 := PU_below M_p.out hb2
  have co0 : w2.cell? ⟨w.heap.size + 1 + 1, 0, none⟩ = some (.int .i64 k) := blk_cell hO2 0
  have co1 : w2.cell? ⟨w.heap.size + 1 + 1, 1, none⟩ = some (.int .i64 n) := blk_cell hO2 1
  have co2 : w2.cell? ⟨w.heap.size + 1 + 1, 2, none⟩ = some (.string s) := blk_cell hO2 2
  have co3 : w2.cell? ⟨w.heap.size + 1 + 1, 3, none⟩ = some (.slice p2 p.length p.length) := blk_cell hO2 3
  have co4 : w2.cell? ⟨w.heap.size + 1 + 1, 4, none⟩ = some (.slice none 0 0) := blk_cell hO2 4
  have fo4 := blk_free hO2 4
  have cr0 : w2.cell? ⟨w.heap.size + 1, 0, none⟩ = some (.int .i64 0) := blk_cell hR2 0
  have cr1 : w2.cell? ⟨w.heap.size + 1, 1, none⟩ = some (.int .i64 0) := blk_cell hR2 1
  have cr2 : w2.cell? ⟨w.heap.size + 1, 2, none⟩ = some (.string ⟨#[]⟩) := blk_cell hR2 2
  have cr3 : w2.cell? ⟨w.heap.size + 1, 3, none⟩ = some (.slice none 0 0) := blk_cell hR2 3
  have cr4 : w2.cell? ⟨w.heap.size + 1, 4, none⟩ = some (.slice none 0 0) := blk_cell hR2 4
  have fr0 := blk_free hR2 0
  have fr1 := blk_free hR2 1
  have fr2 := blk_free hR2 2
  have fr3 := blk_free hR2 3
  have fr4 := blk_free hR2 4
  have qO2 : (w2.setCell ⟨w.heap.size + 1 + 1, 4, none⟩ (.slice a2 (tlen f) (tlen f))).heap[w.heap.size + 1 + 1]? = some (.cells #[.int .i64 k, .int .i64 n, .string s, .slice p2 p.length p.length, .slice a2 (tlen f) (tlen f)] 90 (0, 0)) := (blk_set hO2 (.slice a2 (tlen f) (tlen f)))
  have qR2 : (w2.setCell ⟨w.heap.size + 1 + 1, 4, none⟩ (.slice a2 (tlen f) (tlen f))).heap[w.heap.size + 1]? = some (.cells #[.int .i64 0, .int .i64 0, .string ⟨#[]⟩, .slice none 0 0, .slice none 0 0] 90 (0, 0)) := (blk_off hR2 (by omega) (.slice a2 (tlen f) (tlen f)))
  have qA2 : (w2.setCell ⟨w.heap.size + 1 + 1, 4, none⟩ (.slice a2 (tlen f) (tlen f))).heap[w.heap.size]? = some (.cells #[.int .i64 k, .int .i64 n, .string s, .slice pa p.length pc, .slice a (tlen f) c] 162 (0, 0)) := (blk_off hA2 (by omega) (.slice a2 (tlen f) (tlen f)))
  have qx2 : Ex w (w2.setCell ⟨w.heap.size + 1 + 1, 4, none⟩ (.slice a2 (tlen f) (tlen f))) := (hxa2.set (by show w.heap.size ≤ w.heap.size + 1 + 1; omega) (.slice a2 (tlen f) (tlen f)))
  have qk2 : Kp (w.heap.size + 3) w2 (w2.setCell ⟨w.heap.size + 1 + 1, 4, none⟩ (.slice a2 (tlen f) (tlen f))) := ((Kp.refl (w.heap.size + 3) _).set (Or.inl (by show w.heap.size + 1 + 1 < w.heap.size + 3; omega)) (.slice a2 (tlen f) (tlen f)))
  have yb_p2 := PU_kp ya_p2 qk2
  have yb_f2 := MU_kp (MU_lo y_f (by have := Z1.out; omega)) qk2
  have qz2 : w.heap.size + 3 ≤ (w2.setCell ⟨w.heap.size + 1 + 1, 4, none⟩ (.slice a2 (tlen f) (tlen f))).heap.size := by (try simp only [World.size_setCell]); have := Z1.out; omega
  have qQ : (setL (w2.setCell ⟨w.heap.size + 1 + 1, 4, none⟩ (.slice a2 (tlen f) (tlen f))) (w.heap.size + 1) 0 [.int .i64 k, .int .i64 n, .string s, .slice p2 p.length p.length, .slice a2 (tlen f) (tlen f)]).heap[w.heap.size + 1]? = some (.cells #[.int .i64 k, .int .i64 n, .string s, .slice p2 p.length p.length, .slice a2 (tlen f) (tlen f)] 90 (0, 0)) := (setL_blk [.int .i64 k, .int .i64 n, .string s, .slice p2 p.length p.length, .slice a2 (tlen f) (tlen f)] qR2).trans (by rw [setA_all [.int .i64 k, .int .i64 n, .string s, .slice p2 p.length p.length, .slice a2 (tlen f) (tlen f)] #[.int .i64 0, .int .i64 0, .string ⟨#[]⟩, .slice none 0 0, .slice none 0 0] rfl])
  have rr0 : (setL (w2.setCell ⟨w.heap.size + 1 + 1, 4, none⟩ (.slice a2 (tlen f) (tlen f))) (w.heap.size + 1) 0 [.int .i64 k, .int .i64 n, .string s, .slice p2 p.length p.length, .slice a2 (tlen f) (tlen f)]).cell? ⟨w.heap.size + 1, 0, none⟩ = some (.int .i64 k) := blk_cell qQ 0
  have rr1 : (setL (w2.setCell ⟨w.heap.size + 1 + 1, 4, none⟩ (.slice a2 (tlen f) (tlen f))) (w.heap.size + 1) 0 [.int .i64 k, .int .i64 n, .string s, .slice p2 p.length p.length, .slice a2 (tlen f) (tlen f)]).cell? ⟨w.heap.size + 1, 1, none⟩ = some (.int .i64 n) := blk_cell qQ 1
  have rr2 : (setL (w2.setCell ⟨w.heap.size + 1 + 1, 4, none⟩ (.slice a2 (tlen f) (tlen f))) (w.heap.size + 1) 0 [.int .i64 k, .int .i64 n, .string s, .slice p2 p.length p.length, .slice a2 (tlen f) (tlen f)]).cell? ⟨w.heap.size + 1, 2, none⟩ = some (.string s) := blk_cell qQ 2
  have rr3 : (setL (w2.setCell ⟨w.heap.size + 1 + 1, 4, none⟩ (.slice a2 (tlen f) (tlen f))) (w.heap.size + 1) 0 [.int .i64 k, .int .i64 n, .string s, .slice p2 p.length p.length, .slice a2 (tlen f) (tlen f)]).cell? ⟨w.heap.size + 1, 3, none⟩ = some (.slice p2 p.length p.length) := blk_cell qQ 3
  have rr4 : (setL (w2.setCell ⟨w.heap.size + 1 + 1, 4, none⟩ (.slice a2 (tlen f) (tlen f))) (w.heap.size + 1) 0 [.int .i64 k, .int .i64 n, .string s, .slice p2 p.length p.length, .slice a2 (tlen f) (tlen f)]).cell? ⟨w.heap.size + 1, 4, none⟩ = some (.slice a2 (tlen f) (tlen f)) := blk_cell qQ 4
  have qxx : Ex w (setL (w2.setCell ⟨w.heap.size + 1 + 1, 4, none⟩ (.slice a2 (tlen f) (tlen f))) (w.heap.size + 1) 0 [.int .i64 k, .int .i64 n, .string s, .slice p2 p.length p.length, .slice a2 (tlen f) (tlen f)]) := setL_ex [.int .i64 k, .int .i64 n, .string s, .slice p2 p.length p.length, .slice a2 (tlen f) (tlen f)] qx2 (by omega)
  have qkk : Kp (w.heap.size + 3) (w2.setCell ⟨w.heap.size + 1 + 1, 4, none⟩ (.slice a2 (tlen f) (tlen f))) (setL (w2.setCell ⟨w.heap.size + 1 + 1, 4, none⟩ (.slice a2 (tlen f) (tlen f))) (w.heap.size + 1) 0 [.int .i64 k, .int .i64 n, .string s, .slice p2 p.length p.length, .slice a2 (tlen f) (tlen f)]) := setL_kp [.int .i64 k, .int .i64 n, .string s, .slice p2 p.length p.length, .slice a2 (tlen f) (tlen f)] (Kp.refl _ _) (Or.inl (by omega))
  have yc_p := PU_kp yb_p2 qkk
  have yc_f := MU_kp yb_f2 qkk
  have RR0 : Hid _ := rr0
  have RR1 : Hid _ := rr1
  have RR2 : Hid _ := rr2
  have RR3 : Hid _ := rr3
  have RR4 : Hid _ := rr4
  have QX : Hid _ := qxx
  have YC_p : Hid _ := yc_p
  have YC_f : Hid _ := yc_f
  clear qQ qxx qkk qO2 qR2 qA2 qx2 qz2 qk2 hxa2 hA2 hR2 hO2 hsz2 hb2 BA1 BR1 BO1 X1 Z1 rr0 rr1 rr2 rr3 rr4 yb_p2 yc_p yb_f2 yc_f ya_p2 M_p y_f
  go_wp2_with fail
  have r0 := RR0.out
  have r1 := RR1.out
  have r2 := RR2.out
  have r3 := RR3.out
  have r4 := RR4.out
  simp only [setL, Nat.zero_add, Nat.reduceAdd] at r0 r1 r2 r3 r4
  refine bodyPost_ret (v := .agg #[.int .i64 k, .int .i64 n, .string s, .slice p2 p.length p.length, .slice a2 (tlen f) (tlen f)]) (by simp [results, Tryz.results109, go_sem, r0, r1, r2, r3, r4]) rfl ?_
  exact ⟨p2, a2, rfl, PU_lo YC_p.out (by omega), MU_lo YC_f.out (by omega), QX.out⟩

theorem utoTermS_all : ∀ (d : Nat) (f : TM) (a : Option Addr) (c : Nat) (w : World), tdep f < d → tlen f ≤ 1000000000 → TSm f → MA w 0 f a →
    Calls Tryz.prog 81 #[.slice a (tlen f) c] w fun e w' => ∃ a', e = .returned (.slice a' (tlen f) (tlen f)) ∧ MU w' w.heap.size f a' ∧ Ex w w' := by
  intro d
  induction d with
  | zero => intro f a c w hd; omega
  | succ d ih =>
    intro f a c w hd hl hm hT
    refine utoTermS_by f a c w hl hm hT fun j hj pa pc a' c' w' hx hp hk => ?_
    obtain ⟨g1, g2, g3⟩ := TSm_kid hm j hj
    have hdj := tdep_kid f j hj
    exact utoTerm_by _ _ _ _ pa pc _ a' c' w' g1 hp (fun w2 hx2 => ih _ a' c' w2 (by omega) g2 g3 (MA_below hk hx2))

theorem utoTermS_any (f : TM) (a : Option Addr) (c : Nat) (w : World) (hl : tlen f ≤ 1000000000) (hm : TSm f) (hT : MA w 0 f a) :
    Calls Tryz.prog 81 #[.slice a (tlen f) c] w fun e w' => ∃ a', e = .returned (.slice a' (tlen f) (tlen f)) ∧ MU w' w.heap.size f a' ∧ Ex w w' := utoTermS_all (tdep f + 1) f a c w (by omega) hl hm hT

end Go.Proofs.YtgpdnoghlommeaaGreatDoor

namespace Go.Proofs.YtgpdnoghlommeaaGreatDoor

open Go.RowKit Go.Deep

theorem one_at {u : Int} {w : World} {b : Nat} (hc : w.cell? ⟨b, 0, none⟩ = some (.int .u8 u)) (i : Nat) (hi : i < 1) : w.cell? ⟨b, 0 + i, none⟩ = some (.int .u8 ([u].getD i 0)) := by
  have : i = 0 := by omega
  subst this
  exact hc

theorem conv_one (u : Int) (w : World) (b : Nat) (hc : w.cell? ⟨b, 0, none⟩ = some (.int .u8 u)) :
    (convert 118 9 (.slice (some ⟨b, 0, none⟩) 1 1)).run Tryz.prog w = .ok (.string (strOfNums [u])) w :=
  run_convert_bytes_arg w 118 5 Tryz.underlying118 Tryz.underlying5 b 0 1 1 [u] rfl (one_at hc) 9 Tryz.underlying9

end Go.Proofs.YtgpdnoghlommeaaGreatDoor

namespace Go.Proofs.YtgpdnoghlommeaaGreatDoor

open Go.RowKit Go.Deep

attribute [local go_sem ↓] Go.wp_at_zero Go.wp_at_succ

/-- Rows stay as they are; numbers stay numbers, texts stay texts, and what may be written may be. -/
structure Rs (w w' : World) : Prop where
  size : w.heap.size ≤ w'.heap.size
  sl : ∀ b i a n c, w.cell? ⟨b, i, none⟩ = some (.slice a n c) → w'.cell? ⟨b, i, none⟩ = some (.slice a n c)
  it : ∀ b i x, w.cell? ⟨b, i, none⟩ = some (.int .i64 x) → ∃ y, w'.cell? ⟨b, i, none⟩ = some (.int .i64 y)
  st : ∀ b i s, w.cell? ⟨b, i, none⟩ = some (.string s) → ∃ t, w'.cell? ⟨b, i, none⟩ = some (.string t)
  uf : ∀ b, Unf w b → Unf w' b
theorem Rs.refl (w : World) : Rs w w := ⟨Nat.le_refl _, fun _ _ _ _ _ h => h, fun _ _ x h => ⟨x, h⟩, fun _ _ s h => ⟨s, h⟩, fun _ h => h⟩
theorem Rs.trans {a b c : World} (h : Rs a b) (k : Rs b c) : Rs a c := by
  refine ⟨Nat.le_trans h.size k.size, fun x i a n c hc => k.sl x i a n c (h.sl x i a n c hc), fun x i y hc => ?_, fun x i y hc => ?_, fun x hx => k.uf x (h.uf x hx)⟩
  · obtain ⟨z, hz⟩ := h.it x i y hc
    exact k.it x i z hz
  · obtain ⟨z, hz⟩ := h.st x i y hc
    exact k.st x i z hz
theorem Rs.of_ex {a b : World} (h : Ex a b) : Rs a b := ⟨h.size, fun _ _ _ _ _ hc => h.at hc, fun _ _ x hc => ⟨x, h.at hc⟩, fun _ _ s hc => ⟨s, h.at hc⟩, fun _ hu => hu.ex h⟩
theorem Rs.ex {a b c : World} (h : Rs a b) (k : Ex b c) : Rs a c := h.trans (Rs.of_ex k)
theorem cell_set_or (w : World) (g i b j : Nat) (v : Value) : (b = g ∧ j = i) ∨ (w.setCell ⟨g, i, none⟩ v).cell? ⟨b, j, none⟩ = w.cell? ⟨b, j, none⟩ := by
  by_cases h : b = g ∧ j = i
  · exact Or.inl h
  · refine Or.inr ?_
    apply World.cell?_setCell_other
    intro e
    injection e with e1 e2
    exact h ⟨e1.symm, e2.symm⟩
theorem Rs.set_int {w : World} {g i : Nat} {x : Int} (h : w.cell? ⟨g, i, none⟩ = some (.int .i64 x)) (y : Int) : Rs w (w.setCell ⟨g, i, none⟩ (.int .i64 y)) := by
  refine ⟨by rw [World.size_setCell]; exact Nat.le_refl _, fun b j a n c hc => ?_, fun b j z hc => ?_, fun b j z hc => ?_, fun b hu => hu.set g i _⟩
  · rcases cell_set_or w g i b j (.int .i64 y) with ⟨rfl, rfl⟩ | e
    · rw [h] at hc; cases hc
    · rw [e]; exact hc
  · rcases cell_set_or w g i b j (.int .i64 y) with ⟨rfl, rfl⟩ | e
    · exact ⟨y, World.cell?_setCell_same _ _ _ h⟩
    · rw [e]; exact ⟨z, hc⟩
  · rcases cell_set_or w g i b j (.int .i64 y) with ⟨rfl, rfl⟩ | e
    · rw [h] at hc; cases hc
    · rw [e]; exact ⟨z, hc⟩
theorem Rs.set_str {w : World} {g i : Nat} {x : ByteArray} (h : w.cell? ⟨g, i, none⟩ = some (.string x)) (y : ByteArray) : Rs w (w.setCell ⟨g, i, none⟩ (.string y)) := by
  refine ⟨by rw [World.size_setCell]; exact Nat.le_refl _, fun b j a n c hc => ?_, fun b j z hc => ?_, fun b j z hc => ?_, fun b hu => hu.set g i _⟩
  · rcases cell_set_or w g i b j (.string y) with ⟨rfl, rfl⟩ | e
    · rw [h] at hc; cases hc
    · rw [e]; exact hc
  · rcases cell_set_or w g i b j (.string y) with ⟨rfl, rfl⟩ | e
    · rw [h] at hc; cases hc
    · rw [e]; exact ⟨z, hc⟩
  · rcases cell_set_or w g i b j (.string y) with ⟨rfl, rfl⟩ | e
    · exact ⟨y, World.cell?_setCell_same _ _ _ h⟩
    · rw [e]; exact ⟨z, hc⟩

/-- What writing over tells: the next number; only blocks of S have turned, and these not in form. -/
def MkU (S : Nat → Prop) (k : Int) (n : Nat) (w : World) (e : Ending) (w' : World) : Prop := ∃ x : Int, e = .returned (.int .i64 x) ∧ k ≤ x ∧ x ≤ k + n ∧ FrS S w w' ∧ Rs w w'

/-- Some text. -/
def TxP (w : World) (e : Ending) (w' : World) : Prop := ∃ s, e = .returned (.string s) ∧ Ex w w'
set_option maxRecDepth 100000 in
set_option maxHeartbeats 2000000 in
theorem markText_any (k : Int) (w : World) (h0 : 0 ≤ k) (h1 : k ≤ 1000000000) : Calls Tryz.prog 34 #[.int .i64 k] w (TxP w) := by
  by_cases hk : k ≤ 0
  · have d1 : decide (k ≤ 0) = true := decide_eq_true hk
    go_enter Tryz.func34, Tryz.ntmps34
    go_wp2_with fail
    go_ret
    exact ⟨_, rfl, Ex.refl _⟩
  · have d1 : decide (k ≤ 0) = false := decide_eq_false hk
    go_enter Tryz.func34, Tryz.ntmps34
    go_wp2_with fail
    go_loopw [0, 3] (fun kv ov wr => ∃ (x : Int) (s : ByteArray), kv = .int .i64 x ∧ ov = .string s ∧ 0 ≤ x ∧ x + s.size ≤ 1000000000 ∧ Ex w wr) (fun kv _ _ => (intOf kv).toNat)
    case atStart => exact ⟨k, ⟨#[]⟩, rfl, rfl, h0, by show k + (0 : Nat) ≤ _; omega, Ex.refl _⟩
    case round =>
      obtain ⟨x, s, rfl, rfl, hx0, hxs, hx⟩ := hrel
      have X : Hid (Ex w wr) := hx
      clear hx
      by_cases hp : 0 < x
      · have d2 : decide ((0 : Int) < x) = true := decide_eq_true hp
        obtain ⟨q, hq⟩ : ∃ q, x / 10 = q := ⟨_, rfl⟩
        obtain ⟨m, hmm⟩ : ∃ m, x % 10 = m := ⟨_, rfl⟩
        have hq' : x.tdiv 10 = q := by rw [Int.tdiv_eq_ediv_of_nonneg hx0]; exact hq
        have hm' : x.tmod 10 = m := by rw [Int.tmod_eq_emod_of_nonneg hx0]; exact hmm
        have wq : IntKind.i64.wrap q = q := by rw [IntKind.wrap_i64]; omega
        have wm : IntKind.i64.wrap m = m := by rw [IntKind.wrap_i64]; omega
        have w48 : IntKind.i64.wrap (48 + m) = 48 + m := by rw [IntKind.wrap_i64]; omega
        have w8 : IntKind.u8.wrap (48 + m) = 48 + m := by simp [IntKind.wrap, IntKind.bits, IntKind.signed]; omega
        have cv := conv_one (48 + m)
        obtain ⟨t, ht⟩ : ∃ t, strOfNums [48 + m] = t := ⟨_, rfl⟩
        rw [ht] at cv
        have htl : t.size = 1 := by rw [← ht, strOfNums_size]; rfl
        have n1 : ¬ 9223372036854775807 < t.size + s.size := by omega
        have HX : Hid (0 ≤ q ∧ q + ((t ++ s).size : Nat) ≤ 1000000000 ∧ q < x) := by
          show _ ∧ _
          rw [ByteArray.size_append, htl]
          omega
        clear ht htl hq hmm hxs
        go_wp2_with fail
        go_roundw
        case rel => exact ⟨q, t ++ s, rfl, rfl, HX.out.1, HX.out.2.1, X.out.alloc _⟩
        case measure => have := HX.out; simp [intOf]; omega
      · have d2 : decide ((0 : Int) < x) = false := decide_eq_false hp
        have n1 : ¬ 9223372036854775807 < 1 + s.size := by omega
        go_wp2_with fail
        go_ret
        exact ⟨_, rfl, X.out⟩

set_option maxRecDepth 100000 in
set_option maxHeartbeats 2000000 in
theorem markInts_u {w0 : World} {S : Nat → Prop} (hS : ∀ b, S b → Unf w0 b) (p : List Int) (a : Option Addr) (c : Nat) (k : Int) (hP : PS w0 S p a) (h0 : 0 ≤ k) (hk : k + p.length ≤ 1000000000) (w : World) (hR : Rs w0 w) :
    Calls Tryz.prog 64 #[.slice a p.length c, .int .i64 k] w (MkU S k p.length w) := by
  have P : Hid (PS w0 S p a) := hP
  have R : Hid (Rs w0 w) := hR
  have US : Hid _ := hS
  clear hP hR hS
  go_enter Tryz.func64, Tryz.ntmps64
  go_wp2_with fail
  go_loopw [1, 5] (fun kv i wr => ∃ (j : Nat), j ≤ p.length ∧ i = .int .i64 j ∧ kv = .int .i64 (k + j) ∧ FrS S w wr ∧ Rs w wr) (fun _ i _ => p.length - (intOf i).toNat)
  case atStart => exact ⟨0, by omega, rfl, by simp, FrS.refl _ _, Rs.refl _⟩
  case round =>
    obtain ⟨j, hj, rfl, rfl, hf, hr⟩ := hrel
    have F : Hid (FrS S w wr) := hf
    have RR : Hid (Rs w wr) := hr
    clear hf hr
    obtain ⟨x, hx⟩ : ∃ x : Int, x = k + (j : Int) := ⟨_, rfl⟩
    have HX : Hid (x = k + (j : Int)) := hx
    rw [← hx]
    have hx0 : 0 ≤ x := by omega
    have hx1 : x ≤ 1000000000 := by omega
    clear hx
    by_cases hlt : j < p.length
    · rcases P.out with h | ⟨b, o, rfl, hb, hc⟩
      · omega
      have r2 := (R.out.trans RR.out)
      obtain ⟨y, hy⟩ := r2.it _ _ _ (hc j hlt)
      have hfz := Unf.free (r2.uf b (US.out b hb)) (o + j)
      have F2 : Hid (FrS S w (wr.setCell ⟨b, o + j, none⟩ (.int .i64 x))) := F.out.set hb _
      have R2 : Hid (Rs w (wr.setCell ⟨b, o + j, none⟩ (.int .i64 x))) := RR.out.trans (Rs.set_int hy x)
      clear hc r2
      go_wp2_with fail
      go_roundw
      case rel => exact ⟨j + 1, by omega, by go_num, by have := HX.out; congr 1; omega, F2.out, R2.out⟩
      case measure => simp [intOf]; omega
    · have HJ : Hid (j = p.length) := by show _ = _; omega
      go_wp2_with fail
      go_ret
      exact ⟨x, rfl, by have := HX.out; omega, by have := HX.out; have := HJ.out; omega, F.out, RR.out⟩

set_option maxRecDepth 100000 in
set_option maxHeartbeats 2000000 in
theorem markTexts_u {w0 : World} {S : Nat → Prop} (hS : ∀ b, S b → Unf w0 b) (p : List ByteArray) (a : Option Addr) (c : Nat) (k : Int) (hP : XS w0 S p a) (h0 : 0 ≤ k) (hk : k + p.length ≤ 1000000000) (w : World) (hR : Rs w0 w) :
    Calls Tryz.prog 35 #[.slice a p.length c, .int .i64 k] w (MkU S k p.length w) := by
  have P : Hid (XS w0 S p a) := hP
  have R : Hid (Rs w0 w) := hR
  have US : Hid _ := hS
  clear hP hR hS
  go_enter Tryz.func35, Tryz.ntmps35
  go_wp2_with fail
  go_loopw [1, 5] (fun kv i wr => ∃ (j : Nat), j ≤ p.length ∧ i = .int .i64 j ∧ kv = .int .i64 (k + j) ∧ FrS S w wr ∧ Rs w wr) (fun _ i _ => p.length - (intOf i).toNat)
  case atStart => exact ⟨0, by omega, rfl, by simp, FrS.refl _ _, Rs.refl _⟩
  case round =>
    obtain ⟨j, hj, rfl, rfl, hf, hr⟩ := hrel
    have F : Hid (FrS S w wr) := hf
    have RR : Hid (Rs w wr) := hr
    clear hf hr
    obtain ⟨x, hx⟩ : ∃ x : Int, x = k + (j : Int) := ⟨_, rfl⟩
    have HX : Hid (x = k + (j : Int)) := hx
    rw [← hx]
    have hx0 : 0 ≤ x := by omega
    have hx1 : x ≤ 1000000000 := by omega
    clear hx
    by_cases hlt : j < p.length
    · rcases P.out with h | ⟨b, o, rfl, hb, hc⟩
      · omega
      have HC : Hid _ := hc j hlt
      have HB : Hid (S b) := hb
      clear hc hb
      go_wp2_with fail
      refine Calls.mono (markText_any x _ hx0 hx1) ?_
      rintro e w1 ⟨s, rfl, hb1⟩
      have r2 := (R.out.trans RR.out).ex hb1
      obtain ⟨y, hy⟩ := r2.st _ _ _ HC.out
      have hfz := Unf.free (r2.uf b (US.out b HB.out)) (o + j)
      have F2 : Hid (FrS S w (w1.setCell ⟨b, o + j, none⟩ (.string s))) := (F.out.trans (FrS.of_ex hb1)).set HB.out _
      have R2 : Hid (Rs w (w1.setCell ⟨b, o + j, none⟩ (.string s))) := (RR.out.ex hb1).trans (Rs.set_str hy s)
      clear r2 hb1
      go_wp2_with fail
      go_roundw
      case rel => exact ⟨j + 1, by omega, by go_num, by have := HX.out; congr 1; omega, F2.out, R2.out⟩
      case measure => simp [intOf]; omega
    · have HJ : Hid (j = p.length) := by show _ = _; omega
      go_wp2_with fail
      go_ret
      exact ⟨x, rfl, by have := HX.out; omega, by have := HX.out; have := HJ.out; omega, F.out, RR.out⟩

end Go.Proofs.YtgpdnoghlommeaaGreatDoor

namespace Go.Proofs.YtgpdnoghlommeaaGreatDoor

open Go.RowKit Go.Deep

attribute [local go_sem ↓] Go.wp_at_zero Go.wp_at_succ

theorem sumN_upto' (g : Nat → Nat) : ∀ {k n : Nat}, k ≤ n → sumN g k ≤ sumN g n
  | k, 0, h => by have : k = 0 := by omega
                  subst this; exact Nat.le_refl _
  | k, n + 1, h => by
    by_cases hk : k = n + 1
    · subst hk; exact Nat.le_refl _
    · have := sumN_upto' g (k := k) (n := n) (by omega)
      simp only [sumN]; omega
theorem tWk_step {f : TM} {j : Nat} (h : j < tlen f) : j + 1 + sumN (tWk f) (j + 1) ≤ tW f := by
  have := sumN_upto' (tWk f) (show j + 1 ≤ tlen f by omega)
  rw [tW_sum]; omega

set_option maxRecDepth 100000 in
set_option maxHeartbeats 4000000 in
theorem markTermS_by {w0 : World} {S : Nat → Prop} (hS : ∀ b, S b → Unf w0 b) (f : TM) (a : Option Addr) (c : Nat) (k : Int) (hM : MS w0 S f a) (h0 : 0 ≤ k) (hk : k + (3 * tW f : Nat) ≤ 1000000000) (w : World) (hR : Rs w0 w)
    (hK : ∀ j, j < tlen f → ∀ (a' : Option Addr) (c' : Nat) (k' : Int) (w' : World), Rs w0 w' → 0 ≤ k' → k' + (3 * tW (tkid f j) : Nat) ≤ 1000000000 → MS w0 S (tkid f j) a' → Calls Tryz.prog 37 #[.slice a' (tlen (tkid f j)) c', .int .i64 k'] w' (MkU S k' (3 * tW (tkid f j)) w')) :
    Calls Tryz.prog 37 #[.slice a (tlen f) c, .int .i64 k] w (MkU S k (3 * tW f) w) := by
  have M : Hid (MS w0 S f a) := hM
  have R : Hid (Rs w0 w) := hR
  have US : Hid _ := hS
  have I : Hid _ := hK
  have HK : Hid (k + (3 * tW f : Nat) ≤ 1000000000) := hk
  have hln : tlen f ≤ 1000000000 := by rw [tW_sum] at hk; omega
  clear hM hR hS hK hk
  go_enter Tryz.func37, Tryz.ntmps37
  go_wp2_with fail
  go_loopw [1, 5] (fun kv i wr => ∃ (j : Nat) (x : Int), j ≤ tlen f ∧ i = .int .i64 j ∧ kv = .int .i64 x ∧ k ≤ x ∧ x ≤ k + (3 * (j + sumN (tWk f) j) : Nat) ∧ FrS S w wr ∧ Rs w wr) (fun _ i _ => tlen f - (intOf i).toNat)
  case atStart => exact ⟨0, k, by omega, rfl, rfl, by omega, by simp only [sumN]; omega, FrS.refl _ _, Rs.refl _⟩
  case round =>
    obtain ⟨j, x, hj, rfl, rfl, hx0, hx1, hf, hr⟩ := hrel
    have F : Hid (FrS S w wr) := hf
    have RR : Hid (Rs w wr) := hr
    have HX : Hid (k ≤ x ∧ x ≤ k + (3 * (j + sumN (tWk f) j) : Nat)) := ⟨hx0, hx1⟩
    clear hf hr
    by_cases hlt : j < tlen f
    · rcases M.out with h | ⟨b, o, rfl, hb, hc⟩
      · omega
      have HB : Hid (S b) := hb
      obtain ⟨d0, d1, d2, ⟨pa, pc, d3, hp⟩, a', c', d4, hm⟩ := MC_cell hc j hlt
      have hst := tWk_step hlt
      have hst2 := HK.out
      have ewk : tWk f j = (tname f j).size + (tpath f j).length + tW (tkid f j) := rfl
      simp only [sumN] at hst
      have hxm : x + (3 * (1 + tWk f j) : Nat) ≤ 1000000000 := by omega
      have PI : Hid (∀ (k' : Int) (w' : World), 0 ≤ k' → k' + ((tpath f j).length : Nat) ≤ 1000000000 → Rs w0 w' → Calls Tryz.prog 64 #[.slice pa (tpath f j).length pc, .int .i64 k'] w' (MkU S k' (tpath f j).length w')) := fun k' w' h1 h2 h3 => markInts_u US.out _ pa pc k' hp.1 h1 h2 w' h3
      have KI : Hid (∀ (k' : Int) (w' : World), 0 ≤ k' → k' + (3 * tW (tkid f j) : Nat) ≤ 1000000000 → Rs w0 w' → Calls Tryz.prog 37 #[.slice a' (tlen (tkid f j)) c', .int .i64 k'] w' (MkU S k' (3 * tW (tkid f j)) w')) := fun k' w' h1 h2 h3 => I.out j hlt a' c' k' w' h3 h1 h2 hm
      have D1 : Hid _ := d1
      have D2 : Hid _ := d2
      have D3 : Hid _ := d3
      have D4 : Hid _ := d4
      have rr := R.out.trans RR.out
      obtain ⟨y0, q0⟩ := rr.it _ _ _ d0
      obtain ⟨y1, q1⟩ := rr.it _ _ _ d1
      have u0 := Unf.free (rr.uf b (US.out b HB.out)) (o + j * 5)
      have u1 := Unf.free (rr.uf b (US.out b HB.out)) (o + j * 5 + 1)
      have RA : Rs w (wr.setCell ⟨b, o + j * 5, none⟩ (.int .i64 x)) := RR.out.trans (Rs.set_int q0 x)
      obtain ⟨y1', q1'⟩ := (R.out.trans RA).it _ _ _ D1.out
      have RB : Hid (Rs w ((wr.setCell ⟨b, o + j * 5, none⟩ (.int .i64 x)).setCell ⟨b, o + j * 5 + 1, none⟩ (.int .i64 (x + 1)))) := RA.trans (Rs.set_int q1' (x + 1))
      have FB : Hid (FrS S w ((wr.setCell ⟨b, o + j * 5, none⟩ (.int .i64 x)).setCell ⟨b, o + j * 5 + 1, none⟩ (.int .i64 (x + 1)))) := (F.out.set HB.out _).set HB.out _
      have hx00 : 0 ≤ x := by omega
      have hx10 : x ≤ 1000000000 - 3 := by omega
      have HXM : Hid (x + (3 * (1 + tWk f j) : Nat) ≤ 1000000000 ∧ tWk f j = (tname f j).size + (tpath f j).length + tW (tkid f j) ∧ x + (3 * (1 + tWk f j) : Nat) ≤ k + (3 * (j + 1 + sumN (tWk f) (j + 1)) : Nat)) := ⟨hxm, ewk, by simp only [sumN]; omega⟩
      clear hc hb d0 d1 d2 d3 d4 hp hm hst hst2 ewk hxm rr q1' RA hx0 hx1
      go_wp2_with fail
      refine Calls.mono (markText_any _ _ (by omega) (by omega)) ?_
      rintro e w3 ⟨s, rfl, hb3⟩
      have R3 : Hid (Rs w w3) := RB.out.ex hb3
      have F3 : Hid (FrS S w w3) := FB.out.trans (FrS.of_ex hb3)
      have rr3 := R.out.trans R3.out
      obtain ⟨s2, q2⟩ := rr3.st _ _ _ D2.out
      have u2 := Unf.free (rr3.uf b (US.out b HB.out)) (o + j * 5 + 2)
      have q3 := rr3.sl _ _ _ _ _ D3.out
      have RC : Hid (Rs w (w3.setCell ⟨b, o + j * 5 + 2, none⟩ (.string s))) := R3.out.trans (Rs.set_str q2 s)
      have FC : Hid (FrS S w (w3.setCell ⟨b, o + j * 5 + 2, none⟩ (.string s))) := F3.out.set HB.out _
      clear hb3 rr3 q0 q1 u0 u1 RB FB
      go_wp2_with fail
      refine Calls.mono (PI.out _ _ (by omega) (by have := HXM.out; omega) (R.out.trans RC.out)) ?_
      rintro e w4 ⟨x4, rfl, h41, h42, f4, r4⟩
      have R4 : Hid (Rs w w4) := RC.out.trans r4
      have F4 : Hid (FrS S w w4) := FC.out.trans f4
      have q4 := (R.out.trans R4.out).sl _ _ _ _ _ D4.out
      clear f4 r4 q2 q3 u2
      go_wp2_with fail
      refine Calls.mono (KI.out _ _ (by omega) (by have := HXM.out; omega) (R.out.trans R4.out)) ?_
      rintro e w5 ⟨x5, rfl, h51, h52, f5, r5⟩
      have R5 : Hid (Rs w w5) := R4.out.trans r5
      have F5 : Hid (FrS S w w5) := F4.out.trans f5
      have HX5 : Hid (k ≤ x5 ∧ x5 ≤ k + (3 * (j + 1 + sumN (tWk f) (j + 1)) : Nat)) := by
        have := HXM.out
        have := HX.out
        show _ ∧ _
        omega
      clear f5 r5 q4
      go_wp2_with fail
      go_roundw
      case rel => exact ⟨j + 1, x5, by omega, by go_num, rfl, HX5.out.1, HX5.out.2, F5.out, R5.out⟩
      case measure => simp [intOf]; omega
    · have HJ : Hid (x ≤ k + (3 * tW f : Nat)) := by
        have e : j = tlen f := by omega
        rw [e, ← tW_sum] at hx1
        exact hx1
      go_wp2_with fail
      go_ret
      exact ⟨x, rfl, HX.out.1, HJ.out, F.out, RR.out⟩

theorem markTermS_all {w0 : World} {S : Nat → Prop} (hS : ∀ b, S b → Unf w0 b) : ∀ (d : Nat) (f : TM) (a : Option Addr) (c : Nat) (k : Int) (w : World), tdep f < d → MS w0 S f a → 0 ≤ k → k + (3 * tW f : Nat) ≤ 1000000000 → Rs w0 w →
    Calls Tryz.prog 37 #[.slice a (tlen f) c, .int .i64 k] w (MkU S k (3 * tW f) w) := by
  intro d
  induction d with
  | zero => intro f a c k w hd; omega
  | succ d ih =>
    intro f a c k w hd hM h0 hk hR
    exact markTermS_by hS f a c k hM h0 hk w hR fun j hj a' c' k' w' hR' hk0 hk1 hm => ih _ a' c' k' w' (by have := tdep_kid f j hj; omega) hm hk0 hk1 hR'
theorem markTermS_u {w0 : World} {S : Nat → Prop} (hS : ∀ b, S b → Unf w0 b) (f : TM) (a : Option Addr) (c : Nat) (k : Int) (hM : MS w0 S f a) (h0 : 0 ≤ k) (hk : k + (3 * tW f : Nat) ≤ 1000000000) (w : World) (hR : Rs w0 w) :
    Calls Tryz.prog 37 #[.slice a (tlen f) c, .int .i64 k] w (MkU S k (3 * tW f) w) := markTermS_all hS (tdep f + 1) f a c k w (Nat.lt_succ_self _) hM h0 hk hR

end Go.Proofs.YtgpdnoghlommeaaGreatDoor
