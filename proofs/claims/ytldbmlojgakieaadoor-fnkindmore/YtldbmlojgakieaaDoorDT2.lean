/- Walks: terms drawn, some spoilt. -/
import Derived.Test.YtldbmlojgakieaaDoorGSAO


namespace Go.Proofs.YtldbmlojgakieaaDoor

open Go.RowKit Go.Deep

attribute [local go_sem ↓] Go.wp_at_zero Go.wp_at_succ

/-- A term that is small, of whatever kind. -/
structure Ts (s : ByteArray) (x : List Int) (f : TM) : Prop where
  sm : TSm f
  lm : TLm f
  kids : tlen f ≤ 2
  path : x.length ≤ 3
  name : s.size ≤ 1
  deep : tdep f < 5
/-- A drawn term, maybe spoilt. -/
def OdP (rb p : Nat) (w : World) (e : Ending) (w' : World) : Prop :=
  ∃ (k n : Int) (s : ByteArray) (x : List Int) (xa : Option Addr) (xc : Nat) (f : TM) (fa : Option Addr) (fc q : Nat),
    e = .returned (.agg #[.int .i64 k, .int .i64 n, .string s, .slice xa x.length xc, .slice fa (tlen f) fc]) ∧ PA w' (w.heap.size + 1) x xa ∧ (x.length ≤ xc ∧ xc ≤ 9223372036854775807) ∧ MA w' (w.heap.size + 1) f fa ∧ Ts s x f ∧ p ≤ q ∧ q ≤ p + 200 ∧ Rd w' rb q ∧ Fr rb w w'

theorem od_end {rb p q bx : Nat} {w wY : World} {k n : Int} {s : ByteArray} {x : List Int} {xa : Option Addr} {xc : Nat} {f : TM} {fa : Option Addr} {fc : Nat}
    (hP : PS wY (fun b => w.heap.size + 1 ≤ b ∧ b ≠ bx) x xa) (hc : x.length ≤ xc ∧ xc ≤ 9223372036854775807) (hM : MS wY (fun b => w.heap.size + 1 ≤ b ∧ b ≠ bx) f fa) (hT : Ts s x f) (hR : Rd wY rb q) (hF : Fr rb w wY) (hrb : rb < w.heap.size) (h1 : p ≤ q) (h2 : q ≤ p + 200) :
    OdP rb p w (.returned (.agg #[.int .i64 k, .int .i64 n, .string s, .slice xa x.length xc, .slice fa (tlen f) fc])) (setL wY w.heap.size 0 [.int .i64 k, .int .i64 n, .string s, .slice xa x.length xc, .slice fa (tlen f) fc]) := by
  have hk : Kp (w.heap.size + 1) wY (setL wY w.heap.size 0 [.int .i64 k, .int .i64 n, .string s, .slice xa x.length xc, .slice fa (tlen f) fc]) := setL_kp _ (Kp.refl _ _) (Or.inl (Nat.lt_succ_self _))
  refine ⟨k, n, s, x, xa, xc, f, fa, fc, q, rfl, PS_pa.1 (PS_mono (PS_ks hP fun b hb hl => hk.block b hb.1 hl) fun _ _ hb => hb.1), hc, MS_mono (MS_ks hM fun b hb hl => hk.block b hb.1 hl) fun _ _ hb => hb.1, hT, h1, h2, ?_, ?_⟩
  · simp only [setL]
    exact ((((hR.set (by exact hrb) _).set (by exact hrb) _).set (by exact hrb) _).set (by exact hrb) _).set (by exact hrb) _
  · simp only [setL]
    exact ((((hF.set (Or.inr (by exact Nat.le_refl _)) _).set (Or.inr (by exact Nat.le_refl _)) _).set (Or.inr (by exact Nat.le_refl _)) _).set (Or.inr (by exact Nat.le_refl _)) _).set (Or.inr (by exact Nat.le_refl _)) _

theorem own_apart {w : World} {base bx : Nat} {v : Value} {xs : List Int} {cs : Array Value} (h : Own w base v xs) (hb : w.heap[bx]? = some (.cells cs 28 (0, 0))) : v.ownBlock ≠ some bx := by
  obtain ⟨_, ⟨rfl, _⟩ | ⟨g, cap, cur, rfl, _, hg, _⟩⟩ := h
  · intro e; cases e
  · intro e
    have e' : g = bx := by simpa [Value.ownBlock] using e
    rw [e', hb] at hg
    injection hg with h1
    injection h1 with _ h2
    exact absurd h2 (by decide)
theorem own_ps {w : World} {base bx : Nat} {xs : List Int} {a : Option Addr} {c : Nat} {cs : Array Value} (h : Own w base (.slice a xs.length c) xs) (hb : w.heap[bx]? = some (.cells cs 28 (0, 0))) : PS w (fun b => base ≤ b ∧ b ≠ bx) xs a := by
  have hne := own_apart h hb
  obtain ⟨pa, pc, e, hP, _, _, h4⟩ := h.PA
  injection e with e1 e2 e3
  subst e1 e3
  rcases hP with h0 | ⟨b, o, e, hb', hc⟩
  · exact Or.inl h0
  · refine Or.inr ⟨b, o, e, ⟨hb', fun e' => ?_⟩, hc⟩
    rcases h4 with ⟨h5, _⟩ | ⟨g, h5⟩
    · rw [h5] at e; cases e
    · rw [h5] at e
      injection e with e
      injection e with e6
      exact hne (by rw [h5]; show some g = some bx; rw [e6, e'])

set_option maxHeartbeats 1000000 in
theorem of1_any (rb p b n c : Nat) (w : World) (hp : p ≤ 1000000) (hn : 1 ≤ n) (hn2 : n ≤ 1000) (hrb : b ≠ rb) (hR : Rd w rb p) (hS : ∀ i, i < n → ∃ s : ByteArray, w.cell? ⟨b, i, none⟩ = some (.string s) ∧ s.size ≤ 1) :
    Calls Tryd.prog 23 #[.pointer (some ⟨rb, 0, none⟩), .slice (some ⟨b, 0, none⟩) n c] w fun e w' => ∃ s : ByteArray, e = .returned (.string s) ∧ s.size ≤ 1 ∧ Rd w' rb (p + 1) ∧ Fr rb w w' := by
  have S : Hid (∀ i, i < n → ∃ s : ByteArray, w.cell? ⟨b, i, none⟩ = some (.string s) ∧ s.size ≤ 1) := hS
  clear hS
  go_enter Tryd.func23, Tryd.ntmps23
  go_wp2_with fail
  refine (pick_any rb p n w (by omega) (by omega) hp hR).mono ?_
  rintro e w1 ⟨x, rfl, hx0, hx1, hR1, hF1⟩
  obtain ⟨s, hs, hz⟩ := S.out x.toNat (by omega)
  have hs1 := hF1.at (by exact hrb) hs
  have R1 : Hid (Rd w1 rb (p + 1)) := hR1
  have F1 : Hid (Fr rb w w1) := hF1
  have HZ : Hid (s.size ≤ 1) := hz
  clear hs hR1 hF1 hz
  go_wp2_with fail
  go_ret
  exact ⟨s, rfl, HZ.out, R1.out, F1.out⟩

/-- What is put behind a path. -/
def odV (y : Int) : Int := if y = 0 then -1 else if y = 1 then 2 else 0

set_option maxRecDepth 100000 in
set_option maxHeartbeats 4000000 in
theorem l71Odd_any (rb p : Nat) (w : World) (hp : p ≤ 60000) (hR : Rd w rb p) :
    Calls Tryd.prog 13 #[.pointer (some ⟨rb, 0, none⟩)] w (OdP rb p w) := by
  have hrb := hR.blk
  have t4 : tq 4 = 168 := rfl
  have TT : Hid (Calls Tryd.prog 10 #[.pointer (some ⟨rb, 0, none⟩), .int .i64 5] (w.alloc (.cells #[.int .i64 0, .int .i64 0, .string ⟨#[]⟩, .slice none 0 0, .slice none 0 0] 28)) (TmP 5 rb p (tq 4) (w.alloc (.cells #[.int .i64 0, .int .i64 0, .string ⟨#[]⟩, .slice none 0 0, .slice none 0 0] 28)))) := l71Term_any 4 5 rb p _ rfl (by omega) (by omega) (hR.ex (Ex.new _ _))
  obtain ⟨i0, hi, hz0, hz1, hz2⟩ := info_parts Tryd.info3
  clear hR
  go_enter Tryd.func13, Tryd.ntmps13
  go_wp2_with fail
  refine Calls.mono TT.out ?_
  rintro e w1 ⟨k, n, s, x, xa, xc, f, fa, fc, q1, rfl, hO, hM, hT, hq1, hq1', hR1, hF1⟩
  have zw : (w.alloc (.cells #[.int .i64 0, .int .i64 0, .string ⟨#[]⟩, .slice none 0 0, .slice none 0 0] 28)).heap.size = w.heap.size + 1 := World.size_alloc _ _
  rw [zw] at hO hM
  rw [t4] at hq1'
  have O1 : Hid (Own w1 (w.heap.size + 1) (.slice xa x.length xc) x) := hO
  have M1 : Hid (MS w1 (fun b => (w.heap.size + 1 ≤ b ∧ b ≠ w1.heap.size) ∧ (Value.slice xa x.length xc).ownBlock ≠ some b) f fa) := MS_mono hM fun b hb h => ⟨⟨h.1, by omega⟩, h.2⟩
  have TG : Hid (Ts s x f) := ⟨hT.sm, hT.lm, hT.kids, by have := hT.path; omega, hT.name, hT.deep⟩
  have XL : Hid (x.length ≤ 2) := hT.path
  have R1 : Hid (Rd w1 rb q1) := hR1
  have F1 : Hid (Fr rb w w1) := ((Fr.refl _ _).alloc _).trans hF1
  have Z1 : Hid (w1.heap[w.heap.size]? = some (.cells #[.int .i64 0, .int .i64 0, .string ⟨#[]⟩, .slice none 0 0, .slice none 0 0] 28 (0, 0))) := hF1.blk (by omega) (heap_alloc_new _ _)
  have XC : Hid (x.length ≤ xc ∧ xc ≤ 9223372036854775807) := by
    obtain ⟨_, _, e, _, h1, h2, _⟩ := hO.PA
    injection e with _ _ e3
    subst e3
    exact ⟨h1, h2⟩
  have zw1 : w.heap.size < w1.heap.size := lt_of_block Z1.out
  clear hO hM hT hR1 hF1 TT zw
  go_wp2_with fail
  refine (pick_any rb q1 20 _ (by omega) (by omega) (by omega) (R1.out.ex (Ex.new _ _))).mono ?_
  rintro e w2 ⟨y, rfl, hy0, hy20, hR2, hF2⟩
  obtain ⟨bx, hbx⟩ : ∃ bx, bx = w1.heap.size := ⟨_, rfl⟩
  have hb2 : w2.heap[bx]? = some (.cells #[.int .i64 k, .int .i64 n, .string s, .slice xa x.length xc, .slice fa (tlen f) fc] 28 (0, 0)) := hF2.blk (by omega) (heap_alloc_at _ _ hbx)
  have R2 : Hid (Rd w2 rb (q1 + 1)) := hR2
  have F2 : Hid (Fr rb w w2) := (F1.out.alloc _).trans hF2
  have Z2 : Hid (w2.heap[w.heap.size]? = some (.cells #[.int .i64 0, .int .i64 0, .string ⟨#[]⟩, .slice none 0 0, .slice none 0 0] 28 (0, 0))) := hF2.blk (by omega) ((Ex.new _ _).blk Z1.out)
  have B2 : Hid (w2.heap[bx]? = some (.cells #[.int .i64 k, .int .i64 n, .string s, .slice xa x.length xc, .slice fa (tlen f) fc] 28 (0, 0))) := hb2
  have O2 : Hid (Own w2 (w.heap.size + 1) (.slice xa x.length xc) x) := (O1.out.keep (Kp.of_below (Ex.new _ _) _)).keep (hF2.kp (by omega))
  have M2 : Hid (MS w2 (fun b => (w.heap.size + 1 ≤ b ∧ b ≠ bx) ∧ (Value.slice xa x.length xc).ownBlock ≠ some b) f fa) := by
    rw [hbx]
    exact MS_ks M1.out fun b hb hl => (hF2.block b (Nat.lt_of_lt_of_le hl (Ex.new _ _).size) (by have := hb.1.1; omega)).trans ((Ex.new _ _).block b hl)
  rw [← hbx]
  have zb1 : w.heap.size < bx := by omega
  clear hbx hb2 hR2 hF2 O1 M1 R1 F1 Z1 zw1
  by_cases hy0 : y = 0
  · have e0 : (y == 0) = true := by rw [beq_iff_eq]; exact hy0
    go_wp2_with fail
    refine (pick_any rb (q1 + 1) 10 _ (by omega) (by omega) (by omega) R2.out).mono ?_
    rintro e w3 ⟨z, rfl, hz0', hz3, hR3, hF3⟩
    have hb3 : w3.heap[bx]? = some (.cells #[.int .i64 k, .int .i64 n, .string s, .slice xa x.length xc, .slice fa (tlen f) fc] 28 (0, 0)) := hF3.blk (by omega) B2.out
    have hz3' : w3.heap[w.heap.size]? = some (.cells #[.int .i64 0, .int .i64 0, .string ⟨#[]⟩, .slice none 0 0, .slice none 0 0] 28 (0, 0)) := hF3.blk (by omega) Z2.out
    have zb3 : bx < w3.heap.size := lt_of_block hb3
    have c0 := blk_cell hb3 0
    have c1 := blk_cell hb3 1
    have c2 := blk_cell hb3 2
    have c3 := blk_cell hb3 3
    have c4 := blk_cell hb3 4
    have g0 := blk_free hb3 0
    have g1 := blk_free hb3 1
    have g2 := blk_free hb3 2
    have g3 := blk_free hb3 3
    have g4 := blk_free hb3 4
    have r0 := blk_cell hz3' 0
    have r1 := blk_cell hz3' 1
    have r2 := blk_cell hz3' 2
    have r3 := blk_cell hz3' 3
    have r4 := blk_cell hz3' 4
    have o0 := blk_free hz3' 0
    have o1 := blk_free hz3' 1
    have o2 := blk_free hz3' 2
    have o3 := blk_free hz3' 3
    have o4 := blk_free hz3' 4
    have HB : Hid _ := hb3
    have HZ : Hid _ := blk_off (m := bx) (i := 0) hz3' (by omega) (.int .i64 z)
    have O3 : Hid (Own w3 (w.heap.size + 1) (.slice xa x.length xc) x) := O2.out.keep (hF3.kp (by omega))
    have M3 : Hid (MS w3 (fun b => (w.heap.size + 1 ≤ b ∧ b ≠ bx) ∧ (Value.slice xa x.length xc).ownBlock ≠ some b) f fa) := MS_ks M2.out fun b hb hl => hF3.block b hl (by have := hb.1.1; omega)
    have R3 : Hid (Rd w3 rb (q1 + 1 + 1)) := hR3
    have F3 : Hid (Fr rb w w3) := F2.out.trans hF3
    clear hR3 hF3 hb3 hz3'
    go_wp2_with fail
    have q5 := five_set HZ.out rfl (.int .i64 z) (.int .i64 n) (.string s) (.slice xa x.length xc) (.slice fa (tlen f) fc)
    have hc0 := blk_cell q5 0
    have hc1 := blk_cell q5 1
    have hc2 := blk_cell q5 2
    have hc3 := blk_cell q5 3
    have hc4 := blk_cell q5 4
    simp only [setL, Nat.zero_add, Nat.reduceAdd] at hc0 hc1 hc2 hc3 hc4
    refine bodyPost_ret (v := .agg #[.int .i64 z, .int .i64 n, .string s, .slice xa x.length xc, .slice fa (tlen f) fc]) (by simp [results, Tryd.results13, go_sem, hc0, hc1, hc2, hc3, hc4]) rfl ?_
    exact od_end (PS_ks (own_ps O3.out HB.out) fun b hb _ => Below.heap_setCell _ _ _ _ (by show b ≠ bx; exact hb.2)) XC.out (MS_mono (MS_ks M3.out fun b hb _ => Below.heap_setCell _ _ _ _ (by show b ≠ bx; exact hb.1.2)) fun _ _ hb => hb.1) TG.out (R3.out.set (by show rb < bx; omega) _) (F3.out.set (Or.inr (by show w.heap.size ≤ bx; omega)) _) (by omega) (by omega) (by omega)
  have e0 : (y == 0) = false := by rw [beq_eq_false_iff_ne]; exact hy0
  by_cases hy1 : y = 1
  · have e1 : (y == 1) = true := by rw [beq_iff_eq]; exact hy1
    have zb2 : bx < w2.heap.size := lt_of_block B2.out
    go_wp2_with fail
    refine (pick_any rb (q1 + 1) 3 _ (by omega) (by omega) (by omega) (R2.out.ex (Ex.new _ _))).mono ?_
    rintro e w3 ⟨z, rfl, hz0', hz3, hR3, hF3⟩
    have hbl : w3.heap[w2.heap.size]? = some (.cells #[.int .i64 (-1), .int .i64 1, .int .i64 10000] 3 (0, 0)) := hF3.blk (by omega) (heap_alloc_new _ _)
    obtain ⟨v, hv⟩ : ∃ v : Int, w3.cell? ⟨w2.heap.size, z.toNat, none⟩ = some (.int .i64 v) := by
      have : z = 0 ∨ z = 1 ∨ z = 2 := by omega
      rcases this with rfl | rfl | rfl
      · exact ⟨_, blk_cell hbl 0⟩
      · exact ⟨_, blk_cell hbl 1⟩
      · exact ⟨_, blk_cell hbl 2⟩
    have hb3 : w3.heap[bx]? = some (.cells #[.int .i64 k, .int .i64 n, .string s, .slice xa x.length xc, .slice fa (tlen f) fc] 28 (0, 0)) := hF3.blk (by omega) ((Ex.new _ _).blk B2.out)
    have hz3' : w3.heap[w.heap.size]? = some (.cells #[.int .i64 0, .int .i64 0, .string ⟨#[]⟩, .slice none 0 0, .slice none 0 0] 28 (0, 0)) := hF3.blk (by omega) ((Ex.new _ _).blk Z2.out)
    have zb3 : bx < w3.heap.size := lt_of_block hb3
    have c0 := blk_cell hb3 0
    have c1 := blk_cell hb3 1
    have c2 := blk_cell hb3 2
    have c3 := blk_cell hb3 3
    have c4 := blk_cell hb3 4
    have g0 := blk_free hb3 0
    have g1 := blk_free hb3 1
    have g2 := blk_free hb3 2
    have g3 := blk_free hb3 3
    have g4 := blk_free hb3 4
    have r0 := blk_cell hz3' 0
    have r1 := blk_cell hz3' 1
    have r2 := blk_cell hz3' 2
    have r3 := blk_cell hz3' 3
    have r4 := blk_cell hz3' 4
    have o0 := blk_free hz3' 0
    have o1 := blk_free hz3' 1
    have o2 := blk_free hz3' 2
    have o3 := blk_free hz3' 3
    have o4 := blk_free hz3' 4
    have HB : Hid _ := hb3
    have HZ : Hid _ := blk_off (m := bx) (i := 1) hz3' (by omega) (.int .i64 v)
    have O3 : Hid (Own w3 (w.heap.size + 1) (.slice xa x.length xc) x) := (O2.out.keep (Kp.of_below (Ex.new _ _) _)).keep (hF3.kp (by omega))
    have M3 : Hid (MS w3 (fun b => (w.heap.size + 1 ≤ b ∧ b ≠ bx) ∧ (Value.slice xa x.length xc).ownBlock ≠ some b) f fa) := MS_ks M2.out fun b hb hl => (hF3.block b (Nat.lt_of_lt_of_le hl (Ex.new _ _).size) (by have := hb.1.1; omega)).trans ((Ex.new _ _).block b hl)
    have R3 : Hid (Rd w3 rb (q1 + 1 + 1)) := hR3
    have F3 : Hid (Fr rb w w3) := (F2.out.alloc _).trans hF3
    clear hR3 hF3 hb3 hz3' hbl
    go_wp2_with fail
    have q5 := five_set HZ.out rfl (.int .i64 k) (.int .i64 v) (.string s) (.slice xa x.length xc) (.slice fa (tlen f) fc)
    have hc0 := blk_cell q5 0
    have hc1 := blk_cell q5 1
    have hc2 := blk_cell q5 2
    have hc3 := blk_cell q5 3
    have hc4 := blk_cell q5 4
    simp only [setL, Nat.zero_add, Nat.reduceAdd] at hc0 hc1 hc2 hc3 hc4
    refine bodyPost_ret (v := .agg #[.int .i64 k, .int .i64 v, .string s, .slice xa x.length xc, .slice fa (tlen f) fc]) (by simp [results, Tryd.results13, go_sem, hc0, hc1, hc2, hc3, hc4]) rfl ?_
    exact od_end (PS_ks (own_ps O3.out HB.out) fun b hb _ => Below.heap_setCell _ _ _ _ (by show b ≠ bx; exact hb.2)) XC.out (MS_mono (MS_ks M3.out fun b hb _ => Below.heap_setCell _ _ _ _ (by show b ≠ bx; exact hb.1.2)) fun _ _ hb => hb.1) TG.out (R3.out.set (by show rb < bx; omega) _) (F3.out.set (Or.inr (by show w.heap.size ≤ bx; omega)) _) (by omega) (by omega) (by omega)
  have e1 : (y == 1) = false := by rw [beq_eq_false_iff_ne]; exact hy1
  by_cases hy2 : y = 2
  · have e2 : (y == 2) = true := by rw [beq_iff_eq]; exact hy2
    have zb2 : bx < w2.heap.size := lt_of_block B2.out
    have c3 := blk_cell B2.out 3
    have X3 : Hid (∀ w', Ex w2 w' → Calls Tryd.prog 11 #[.pointer (some ⟨rb, 0, none⟩), .int .i64 3] w' (fun e w'' => ∃ x : Int, e = .returned (.int .i64 x) ∧ 0 ≤ x ∧ x < 3 ∧ Rd w'' rb (q1 + 1 + 1) ∧ Fr rb w' w'')) := fun w' h => pick_any rb (q1 + 1) 3 _ (by omega) (by omega) (by omega) (R2.out.ex h)
    have HLIT : Hid (∀ y : Int, 0 ≤ y → y < 3 → (#[Value.int .i64 (-1), Value.int .i64 2, Value.int .i64 0] : Array Value)[y.toNat]? = some (.int .i64 (odV y))) := fun y h0 h1 => by
      have : y = 0 ∨ y = 1 ∨ y = 2 := by omega
      rcases this with rfl | rfl | rfl <;> rfl
    have HLI2 : Hid (∀ y : Int, 0 ≤ y → y < 3 → ∀ h : y.toNat < ([Value.int .i64 (-1), Value.int .i64 2, Value.int .i64 0] : List Value).length, ([Value.int .i64 (-1), Value.int .i64 2, Value.int .i64 0] : List Value)[y.toNat]'h = .int .i64 (odV y)) := fun y h0 h1 h => by
      have : y = 0 ∨ y = 1 ∨ y = 2 := by omega
      rcases this with rfl | rfl | rfl <;> rfl
    go_wp2_with fail
    go_region_law (first
      | (refine step_append_own' (by rfl) _ _ _ (by rfl) (w.heap.size + 1) 3 i0 (.int .i64 0) 1 8 Tryd.underlying25 hi hz0 hz1 hz2 rfl (by omega) (.slice xa x.length xc) x.length (x.map (Value.int .i64)) (by rfl) (by first | exact World.ownsRow.alloc O5.out _ | exact World.ownsRow.alloc (World.ownsRow.alloc O5.out _) _) ⟨_, 0, none⟩ 1 1 [.int .i64 (odV y)] (by rfl) (by rfl) (by first | exact World.news_of_block (cs := #[.int .i64 (odV y)]) (t := 3) (fr := (0, 0)) (heap_alloc_new w5 _) | exact World.news_of_block (cs := #[.int .i64 (odV y)]) (t := 3) (fr := (0, 0)) (heap_alloc_at _ _ (by rw [World.size_alloc]))) (by intro u hu; simp at hu; subst hu; rfl) (by unfold maxLen; have := XL.out; omega) (by have := XL.out; omega) (by first | (rw [World.size_alloc]; omega) | (rw [World.size_alloc, World.size_alloc]; omega)) ?_; intro v6 w6 hown6 hgrow6; have O6 : Hid (Own w6 (w.heap.size + 1) v6 (x ++ [odV y])) := (by show World.ownsRow _ _ _ _ _ _ _; rw [List.length_append, List.map_append]; exact hown6); have kp6 : ∀ b, b < w5.heap.size → (Value.slice xa x.length xc).ownBlock ≠ some b → w6.heap[b]? = w5.heap[b]? := (by first | exact fun b hb hn => (hgrow6.block b (by rw [World.size_alloc]; omega) (fun e => hn e.symm)).trans ((Ex.new _ _).block b hb) | exact fun b hb hn => (hgrow6.block b (by rw [World.size_alloc, World.size_alloc]; omega) (fun e => hn e.symm)).trans (((Ex.new _ _).alloc _).block b hb)); have hbl : Below (w.heap.size + 1) w5 w6 := (by first | exact ((Below.refl _ w5).alloc (by omega) _).grown hgrow6 (by rw [World.size_alloc]; omega) O5.out.row | exact (((Below.refl _ w5).alloc (by omega) _).alloc (by rw [World.size_alloc]; omega) _).grown hgrow6 (by rw [World.size_alloc, World.size_alloc]; omega) O5.out.row); have htb6 := (kp6 bx (by omega) (own_apart O5.out htb5)).trans htb5; have g3 := blk_free htb6 3; have g1 := blk_cell htb6 3; obtain ⟨la, lc, hv6, _⟩ := O6.out.PA; subst hv6)
      | (go_simp; go_at_call 11; refine (X3.out _ (by first | exact (Ex.refl _).drew | exact (Ex.refl _).drew.alloc _)).mono ?_; rintro e w5 ⟨y, rfl, hy0', hy1', hR5, hF5⟩; have hF5' : Fr rb w2 w5 := Fr.trans (Fr.of_ex (by first | exact (Ex.refl _).drew | exact (Ex.refl _).drew.alloc _) rb) hF5; have htb5 := hF5'.blk (n := bx) (by omega) B2.out; have hrs5 := hF5'.blk (n := w.heap.size) (by omega) Z2.out; have h1 := blk_cell htb5 3; have h3 := lt_of_block htb5; have O5 : Hid (Own w5 (w.heap.size + 1) (.slice xa x.length xc) x) := O2.out.keep (hF5'.kp (by omega)); have hl := HLIT.out y hy0' hy1'; have hl2 := HLI2.out y hy0' hy1'; first | (have hl5 : w5.cell? ⟨w2.heap.size, y.toNat, none⟩ = some (.int .i64 (odV y)) := hF5.at (by show w2.heap.size ≠ rb; omega) ((World.cell?_alloc_new w2.drew #[.int .i64 (-1), .int .i64 2, .int .i64 0] 3 y.toNat).trans hl)) | skip))
    all_goals
      have F6 : Hid (Fr rb w w6) := (F2.out.trans hF5').below hbl (by omega)
      have R6 : Hid (Rd w6 rb (q1 + 1 + 1)) := hR5.below hbl (by omega)
      have hz6 := (hbl.block w.heap.size (by omega)).trans hrs5
      have hlen : (x ++ [odV y]).length = x.length + 1 := by simp only [List.length_append, List.length_cons, List.length_nil]
      have O7 : Hid (Own w6 (w.heap.size + 1) (.slice la (x ++ [odV y]).length lc) (x ++ [odV y])) := O6.out
      have M6 : Hid (MS w6 (fun b => (w.heap.size + 1 ≤ b ∧ b ≠ bx) ∧ (Value.slice xa x.length xc).ownBlock ≠ some b) f fa) := MS_ks (MS_ks M2.out fun b hb hl => hF5'.block b hl (by have := hb.1.1; omega)) fun b hb hl => kp6 b hl hb.2
      have HB : Hid _ := htb6
      have HZ : Hid _ := blk_off (m := bx) (i := 3) hz6 (by omega) (.slice la (x.length + 1) lc)
      have zb6 : bx < w6.heap.size := lt_of_block htb6
      have XC6 : Hid ((x ++ [odV y]).length ≤ lc ∧ lc ≤ 9223372036854775807) := by
        obtain ⟨_, _, e, _, h1, h2, _⟩ := O7.out.PA
        injection e with _ _ e3
        subst e3
        exact ⟨h1, h2⟩
      have TG6 : Hid (Ts s (x ++ [odV y]) f) := ⟨TG.out.sm, TG.out.lm, TG.out.kids, by rw [hlen]; have := XL.out; omega, TG.out.name, TG.out.deep⟩
      clear g1 g3
      have c0 := blk_cell htb6 0
      have c1 := blk_cell htb6 1
      have c2 := blk_cell htb6 2
      have c3 := blk_cell htb6 3
      have c4 := blk_cell htb6 4
      have g0 := blk_free htb6 0
      have g1 := blk_free htb6 1
      have g2 := blk_free htb6 2
      have g3 := blk_free htb6 3
      have g4 := blk_free htb6 4
      have r0 := blk_cell hz6 0
      have r1 := blk_cell hz6 1
      have r2 := blk_cell hz6 2
      have r3 := blk_cell hz6 3
      have r4 := blk_cell hz6 4
      have o0 := blk_free hz6 0
      have o1 := blk_free hz6 1
      have o2 := blk_free hz6 2
      have o3 := blk_free hz6 3
      have o4 := blk_free hz6 4
      clear hF5 hF5' hR5 hbl hz6 htb6 htb5 hrs5 hown6 hgrow6 hl hl2 O5 kp6
      go_wp2_with fail
      have q5 := five_set HZ.out rfl (.int .i64 k) (.int .i64 n) (.string s) (.slice la (x.length + 1) lc) (.slice fa (tlen f) fc)
      have hc0 := blk_cell q5 0
      have hc1 := blk_cell q5 1
      have hc2 := blk_cell q5 2
      have hc3 := blk_cell q5 3
      have hc4 := blk_cell q5 4
      simp only [setL, Nat.zero_add, Nat.reduceAdd] at hc0 hc1 hc2 hc3 hc4
      refine bodyPost_ret (v := .agg #[.int .i64 k, .int .i64 n, .string s, .slice la (x.length + 1) lc, .slice fa (tlen f) fc]) (by simp [results, Tryd.results13, go_sem, hc0, hc1, hc2, hc3, hc4]) rfl ?_
      have fe := od_end (wY := w6.setCell ⟨bx, 3, none⟩ (.slice la (x.length + 1) lc)) (k := k) (n := n) (s := s) (x := x ++ [odV y]) (xa := la) (xc := lc) (f := f) (fa := fa) (fc := fc) (bx := bx) (p := p) (rb := rb) (w := w) (q := q1 + 1 + 1) (PS_ks (own_ps O7.out HB.out) fun b hb _ => Below.heap_setCell _ _ _ _ (by show b ≠ bx; exact hb.2)) XC6.out (MS_mono (MS_ks M6.out fun b hb _ => Below.heap_setCell _ _ _ _ (by show b ≠ bx; exact hb.1.2)) fun _ _ hb => hb.1) TG6.out (R6.out.set (by show rb < bx; omega) _) (F6.out.set (Or.inr (by show w.heap.size ≤ bx; omega)) _) (by omega) (by omega) (by omega)
      rw [hlen] at fe
      exact fe
  have e2 : (y == 2) = false := by rw [beq_eq_false_iff_ne]; exact hy2
  by_cases hy3 : y = 3
  · have e3 : (y == 3) = true := by rw [beq_iff_eq]; exact hy3
    have zb2 : bx < w2.heap.size := lt_of_block B2.out
    go_wp2_with fail
    refine (of1_any rb (q1 + 1) w2.heap.size 3 3 _ (by omega) (by omega) (by omega) (by omega) (R2.out.ex (Ex.new _ _)) (fun i hi => ?lits2)).mono ?_
    case lits2 =>
      have : i = 0 ∨ i = 1 ∨ i = 2 := by omega
      rcases this with rfl | rfl | rfl
      · exact ⟨_, by simp; rfl, by decide⟩
      · exact ⟨_, by simp; rfl, by decide⟩
      · exact ⟨_, by simp; rfl, by decide⟩
    rintro e w3 ⟨s', rfl, hs', hR3, hF3⟩
    have hb3 : w3.heap[bx]? = some (.cells #[.int .i64 k, .int .i64 n, .string s, .slice xa x.length xc, .slice fa (tlen f) fc] 28 (0, 0)) := hF3.blk (by omega) ((Ex.new _ _).blk B2.out)
    have hz3' : w3.heap[w.heap.size]? = some (.cells #[.int .i64 0, .int .i64 0, .string ⟨#[]⟩, .slice none 0 0, .slice none 0 0] 28 (0, 0)) := hF3.blk (by omega) ((Ex.new _ _).blk Z2.out)
    have zb3 : bx < w3.heap.size := lt_of_block hb3
    have c0 := blk_cell hb3 0
    have c1 := blk_cell hb3 1
    have c2 := blk_cell hb3 2
    have c3 := blk_cell hb3 3
    have c4 := blk_cell hb3 4
    have g0 := blk_free hb3 0
    have g1 := blk_free hb3 1
    have g2 := blk_free hb3 2
    have g3 := blk_free hb3 3
    have g4 := blk_free hb3 4
    have r0 := blk_cell hz3' 0
    have r1 := blk_cell hz3' 1
    have r2 := blk_cell hz3' 2
    have r3 := blk_cell hz3' 3
    have r4 := blk_cell hz3' 4
    have o0 := blk_free hz3' 0
    have o1 := blk_free hz3' 1
    have o2 := blk_free hz3' 2
    have o3 := blk_free hz3' 3
    have o4 := blk_free hz3' 4
    have HB : Hid _ := hb3
    have HZ : Hid _ := blk_off (m := bx) (i := 2) hz3' (by omega) (.string s')
    have O3 : Hid (Own w3 (w.heap.size + 1) (.slice xa x.length xc) x) := (O2.out.keep (Kp.of_below (Ex.new _ _) _)).keep (hF3.kp (by omega))
    have M3 : Hid (MS w3 (fun b => (w.heap.size + 1 ≤ b ∧ b ≠ bx) ∧ (Value.slice xa x.length xc).ownBlock ≠ some b) f fa) := MS_ks M2.out fun b hb hl => (hF3.block b (Nat.lt_of_lt_of_le hl (Ex.new _ _).size) (by have := hb.1.1; omega)).trans ((Ex.new _ _).block b hl)
    have R3 : Hid (Rd w3 rb (q1 + 1 + 1)) := hR3
    have F3 : Hid (Fr rb w w3) := (F2.out.alloc _).trans hF3
    have TG3 : Hid (Ts s' x f) := ⟨TG.out.sm, TG.out.lm, TG.out.kids, TG.out.path, hs', TG.out.deep⟩
    clear hR3 hF3 hb3 hz3' hs'
    go_wp2_with fail
    have q5 := five_set HZ.out rfl (.int .i64 k) (.int .i64 n) (.string s') (.slice xa x.length xc) (.slice fa (tlen f) fc)
    have hc0 := blk_cell q5 0
    have hc1 := blk_cell q5 1
    have hc2 := blk_cell q5 2
    have hc3 := blk_cell q5 3
    have hc4 := blk_cell q5 4
    simp only [setL, Nat.zero_add, Nat.reduceAdd] at hc0 hc1 hc2 hc3 hc4
    refine bodyPost_ret (v := .agg #[.int .i64 k, .int .i64 n, .string s', .slice xa x.length xc, .slice fa (tlen f) fc]) (by simp [results, Tryd.results13, go_sem, hc0, hc1, hc2, hc3, hc4]) rfl ?_
    exact od_end (PS_ks (own_ps O3.out HB.out) fun b hb _ => Below.heap_setCell _ _ _ _ (by show b ≠ bx; exact hb.2)) XC.out (MS_mono (MS_ks M3.out fun b hb _ => Below.heap_setCell _ _ _ _ (by show b ≠ bx; exact hb.1.2)) fun _ _ hb => hb.1) TG3.out (R3.out.set (by show rb < bx; omega) _) (F3.out.set (Or.inr (by show w.heap.size ≤ bx; omega)) _) (by omega) (by omega) (by omega)
  have e3 : (y == 3) = false := by rw [beq_eq_false_iff_ne]; exact hy3
  have zb2 : bx < w2.heap.size := lt_of_block B2.out
  have c0 := blk_cell B2.out 0
  have c1 := blk_cell B2.out 1
  have c2 := blk_cell B2.out 2
  have c3 := blk_cell B2.out 3
  have c4 := blk_cell B2.out 4
  have g0 := blk_free B2.out 0
  have g1 := blk_free B2.out 1
  have g2 := blk_free B2.out 2
  have g3 := blk_free B2.out 3
  have g4 := blk_free B2.out 4
  have r0 := blk_cell Z2.out 0
  have r1 := blk_cell Z2.out 1
  have r2 := blk_cell Z2.out 2
  have r3 := blk_cell Z2.out 3
  have r4 := blk_cell Z2.out 4
  have o0 := blk_free Z2.out 0
  have o1 := blk_free Z2.out 1
  have o2 := blk_free Z2.out 2
  have o3 := blk_free Z2.out 3
  have o4 := blk_free Z2.out 4
  go_wp2_with fail
  have q5 := five_set Z2.out rfl (.int .i64 k) (.int .i64 n) (.string s) (.slice xa x.length xc) (.slice fa (tlen f) fc)
  have hc0 := blk_cell q5 0
  have hc1 := blk_cell q5 1
  have hc2 := blk_cell q5 2
  have hc3 := blk_cell q5 3
  have hc4 := blk_cell q5 4
  simp only [setL, Nat.zero_add, Nat.reduceAdd] at hc0 hc1 hc2 hc3 hc4
  refine bodyPost_ret (v := .agg #[.int .i64 k, .int .i64 n, .string s, .slice xa x.length xc, .slice fa (tlen f) fc]) (by simp [results, Tryd.results13, go_sem, hc0, hc1, hc2, hc3, hc4]) rfl ?_
  exact od_end (own_ps O2.out B2.out) XC.out (MS_mono M2.out fun _ _ hb => hb.1) TG.out R2.out F2.out (by omega) (by omega) (by omega)

end Go.Proofs.YtldbmlojgakieaaDoor
