/- Walks: values drawn, some spoilt. -/
import Derived.Test.YtngheeeadekdmaaDoorD5

namespace Go.Proofs.YtngheeeadekdmaaDoor

open Go.RowKit Go.Deep

open Go.WideShapes (add_plain)

attribute [local go_sem ↓] Go.wp_at_zero Go.wp_at_succ

theorem num_snoc : ∀ (f : F) (n : Int) (k : F) (i : Nat), num (snoc f n k) i = if i < len f then num f i else if i = len f then n else 0
  | .nil, n, k, 0 => by simp [snoc, num, len]
  | .nil, n, k, i + 1 => by simp [snoc, num, len]
  | .node _ _ _ _ r, n, k, 0 => by simp [snoc, num, len]
  | .node _ _ _ _ r, n, k, i + 1 => by simp [snoc, num, len, num_snoc r n k i]

/-- The cells of a list of values. -/
theorem VS_olds {w : World} {S : Nat → Prop} {f : F} {a : Option Addr} (h : VS w S f a) : ∃ olds : List Value, olds.length = len f * 2 ∧ (∀ b, a = some b → ∀ j u, olds[j]? = some u → w.cell? (b.add j) = some u) ∧
    ∀ i, i < len f → olds[i * 2]? = some (.int .i64 (num f i)) ∧ ∃ a' cap, olds[i * 2 + 1]? = some (.slice a' (len (kid f i)) cap) ∧ VS w S (kid f i) a' := by
  by_cases h0 : len f = 0
  · exact ⟨[], by simp [h0], by intro _ _ j u hu; simp at hu, fun i hi => by omega⟩
  · obtain ⟨b, o, rfl, _, _, hk⟩ := VS_at h (by omega)
    refine ⟨(List.range (len f * 2)).map fun i => (w.cell? ⟨b, o + i, none⟩).getD default, by simp, ?_, ?_⟩
    · intro b' hb' j u hu
      cases hb'
      rw [List.getElem?_map] at hu
      by_cases hj : j < len f * 2
      · rw [List.getElem?_range hj] at hu
        obtain ⟨hn, a', cap, hc, _⟩ := hk (j / 2) (by omega)
        rw [add_plain]
        have : j = j / 2 * 2 ∨ j = j / 2 * 2 + 1 := by omega
        rcases this with e | e
        · rw [← e] at hn
          simp [hn] at hu
          subst hu
          exact hn
        · rw [Nat.add_assoc, ← e] at hc
          simp [hc] at hu
          subst hu
          exact hc
      · rw [List.getElem?_eq_none (by simpa using hj)] at hu; simp at hu
    · intro i hi
      obtain ⟨hn, a', cap, hc, ht⟩ := hk i hi
      refine ⟨by rw [List.getElem?_map, List.getElem?_range (by omega)]; simp [hn], a', cap, ?_, ht⟩
      rw [List.getElem?_map, List.getElem?_range (by omega)]
      rw [Nat.add_assoc] at hc
      simp [hc]

theorem VS_snoc {w : World} {S : Nat → Prop} {f k : F} {n : Int} {olds : List Value} {g : Nat} {cur : Array Value} {e : TypeId} {a0 : Option Addr} {c0 : Nat} (hS : S g) (hg : w.heap[g]? = some (.cells cur e (0, 0)))
    (hcur : cur.toList.take ((len f + 1) * 2) = olds ++ [.int .i64 n, .slice a0 (len k) c0]) (hl : olds.length = len f * 2) (hk : ∀ i, i < len f → olds[i * 2]? = some (.int .i64 (num f i)) ∧ ∃ a' cap, olds[i * 2 + 1]? = some (.slice a' (len (kid f i)) cap) ∧ VS w S (kid f i) a') (h0 : VS w S k a0) :
    VS w S (snoc f n k) (some ⟨g, 0, none⟩) := by
  refine VS_mk hS fun i hi => ?_
  rw [len_snoc] at hi
  have hcell : ∀ j, j < (len f + 1) * 2 → w.cell? ⟨g, 0 + j, none⟩ = (olds ++ [.int .i64 n, .slice a0 (len k) c0])[j]? := by
    intro j hj
    rw [← hcur, List.getElem?_take_of_lt hj]
    simp [World.cell?, hg]
  rw [Nat.add_assoc, hcell (i * 2) (by omega), hcell (i * 2 + 1) (by omega), kid_snoc, num_snoc]
  by_cases h : i < len f
  · obtain ⟨h1, a', cap, h2, h3⟩ := hk i h
    exact ⟨by rw [List.getElem?_append_left (by omega), h1, if_pos h], a', cap, by rw [List.getElem?_append_left (by omega), h2, if_pos h], by rw [if_pos h]; exact h3⟩
  · have e : i = len f := by omega
    exact ⟨by rw [List.getElem?_append_right (by omega), if_neg h, if_pos e]; simp [hl, e], a0, c0, by rw [List.getElem?_append_right (by omega), if_neg h, if_pos e]; simp [hl, e], by rw [if_neg h, if_pos e]; exact h0⟩

theorem VS_two {w : World} {S : Nat → Prop} {f : F} (h2 : len f = 2) {g : Nat} (hg : S g) {a0 a1 : Option Addr} {k0 k1 : Nat} (n0 : w.cell? ⟨g, 0, none⟩ = some (.int .i64 (num f 0))) (c0 : w.cell? ⟨g, 1, none⟩ = some (.slice a0 (len (kid f 0)) k0))
    (n1 : w.cell? ⟨g, 2, none⟩ = some (.int .i64 (num f 1))) (c1 : w.cell? ⟨g, 3, none⟩ = some (.slice a1 (len (kid f 1)) k1))
    (t0 : VS w S (kid f 0) a0) (t1 : VS w S (kid f 1) a1) : VS w S f (some ⟨g, 0, none⟩) := by
  refine VS_mk hg fun i hi => ?_
  have : i = 0 ∨ i = 1 := by omega
  rcases this with rfl | rfl
  · exact ⟨n0, a0, k0, c0, t0⟩
  · exact ⟨n1, a1, k1, c1, t1⟩

theorem Tryd.info25 : (Tryd.prog.info? 25).map (fun i => (i.zero, i.size, i.bytes)) = some (some (.agg #[.int .i64 0, .slice none 0 0]), 2, 32) := by kernel_rfl

theorem two_set0 {w : World} {b : Nat} {u v u' : Value} {t : TypeId} (h : w.heap[b]? = some (.cells #[u, v] t (0, 0))) : (w.setCell ⟨b, 0, none⟩ u').heap[b]? = some (.cells #[u', v] t (0, 0)) := by
  simp [World.setCell, Array.getElem?_modify, h]
theorem two_set1 {w : World} {b : Nat} {u v v' : Value} {t : TypeId} (h : w.heap[b]? = some (.cells #[u, v] t (0, 0))) : (w.setCell ⟨b, 1, none⟩ v').heap[b]? = some (.cells #[u, v'] t (0, 0)) := by
  simp [World.setCell, Array.getElem?_modify, h]

set_option maxRecDepth 100000 in
set_option maxHeartbeats 2000000 in
theorem l71Bad_any (r : Nat) (f : F) (a : Option Addr) (cap lo rb p : Nat) (w : World) (hr : r ≤ 4) (hf : fits r f = true) (hlo : rb < lo) (hp : p ≤ 50000) (hT : TA w lo f a) (hR : Rd w rb p) :
    Calls Tryd.prog 13 #[.pointer (some ⟨rb, 0, none⟩), .agg #[.slice a (len f) cap]] w fun e w' => ∃ (n : Int) (g : F) (a' : Option Addr) (c' q : Nat), e = .returned (.agg #[.int .i64 n, .slice a' (len g) c']) ∧ VA w' w.heap.size g a' ∧ (len g ≤ 1000000000 ∧ Sm g) ∧ dep g ≤ 20 ∧ p ≤ q ∧ q ≤ p + 100 ∧ Rd w' rb q ∧ Fr rb w w' := by
  have hrb := hR.blk
  have R : Hid (Rd w rb p) := hR
  have T : Hid (∀ w', Ex w w' → TA w' lo f a) := fun _ h => TA_below hT h
  have FF : Hid (fits r f = true) := hf
  have htk : tk r ≤ 15 := by
    have : r = 0 ∨ r = 1 ∨ r = 2 ∨ r = 3 ∨ r = 4 := by omega
    rcases this with h | h | h | h | h <;> rw [h] <;> decide
  clear hR hT hf
  obtain ⟨i0, hi, hz0, hz1, hz2⟩ := info_parts Tryd.info25
  go_enter Tryd.func13, Tryd.ntmps13
  go_wp2_with fail
  refine (l71Val_any r f a cap lo rb p _ (by omega) FF.out hlo (by omega) (T.out _ ((Ex.new _ _).alloc _)) (R.out.ex ((Ex.new _ _).alloc _))).mono ?_
  rintro e w1 ⟨n, g, a1, q0, rfl, ht, hnil, hsm, hdp, hq0, hq1, hR1, hF1⟩
  have z1 : w.heap.size + 2 ≤ w1.heap.size := by have := hF1.size; simpa using this
  have hres1 : w1.heap[w.heap.size + 1]? = some (.cells #[.int .i64 0, .slice none 0 0] 25 (0, 0)) := hF1.blk (by omega) (heap_alloc_at _ _ (by simp))
  have F1 : Hid (Fr rb w w1) := Fr.trans (Fr.of_ex ((Ex.new _ _).alloc _) _) hF1
  have T1 : Hid (VA w1 (w.heap.size + 2) g a1) := VA_lo ht (by simp)
  have NL : Hid (len g = 0 → a1 = none) := hnil
  have SM : Hid (len g ≤ 2 ∧ Sm g) := hsm
  have DP : Hid (dep g ≤ 4) := by show _ ≤ _; omega
  clear ht hnil hF1 hsm hdp
  go_wp2_with fail
  refine (pick_any rb q0 12 _ (by omega) (by omega) (by omega) (hR1.ex (Ex.new _ _))).mono ?_
  rintro e w3 ⟨y, rfl, hy0, hy3, hR3, hF3⟩
  have z3 : w1.heap.size < w3.heap.size := by have := hF3.size; rw [World.size_alloc] at this; omega
  have F3 : Hid (Fr rb w w3) := F1.out.trans (Fr.trans (Fr.of_ex (Ex.new _ _) _) hF3)
  have hb3 : w3.heap[w1.heap.size]? = some (.cells #[.int .i64 n, .slice a1 (len g) (len g)] 25 (0, 0)) := hF3.blk (by omega) (heap_alloc_new _ _)
  have hres3 := hF3.blk (n := w.heap.size + 1) (by omega) ((Ex.new _ _).blk hres1)
  have T3 : Hid (VS w3 (fun b => w.heap.size + 1 < b ∧ b ≠ w1.heap.size) g a1) :=
    VS_ks (VS_ks (VS_mono (S' := fun b => w.heap.size + 1 < b ∧ b ≠ w1.heap.size) T1.out fun b hb h => ⟨by omega, by omega⟩) (fun k _ hlt => (Ex.new w1 _).block k hlt)) fun k hk hlt => hF3.block k hlt (by omega)
  have R3 : Hid (Rd w3 rb (q0 + 1)) := hR3
  clear hres1 hR1 hR3 hF3
  generalize ht3 : w1.heap.size = t3 at *
  clear ht3
  have FIN : Hid (∀ (wf : World) (g : F) (a' : Option Addr) (u v : Value) (q : Nat), VS wf (fun b => w.heap.size + 1 < b ∧ b ≠ t3) g a' → Rd wf rb q → Fr rb w wf →
      VA ((wf.setCell ⟨w.heap.size + 1, 0, none⟩ u).setCell ⟨w.heap.size + 1, 1, none⟩ v) w.heap.size g a' ∧ Rd ((wf.setCell ⟨w.heap.size + 1, 0, none⟩ u).setCell ⟨w.heap.size + 1, 1, none⟩ v) rb q ∧ Fr rb w ((wf.setCell ⟨w.heap.size + 1, 0, none⟩ u).setCell ⟨w.heap.size + 1, 1, none⟩ v)) := by
    intro wf g a' u v q h1 h2 h3
    refine ⟨VS_mono (VS_ks h1 fun k hk _ => by rw [Below.heap_setCell _ _ _ _ (by show k ≠ w.heap.size + 1; omega), Below.heap_setCell _ _ _ _ (by show k ≠ w.heap.size + 1; omega)]) fun b _ hb => by omega, (h2.set (by show rb < w.heap.size + 1; omega) _).set (by show rb < w.heap.size + 1; omega) _, (h3.set (Or.inr (Nat.le_succ _)) _).set (Or.inr (Nat.le_succ _)) _⟩
  have c0 := two_cell0 hb3
  have c1 := two_cell1 hb3
  have c2 := two_free (i := 0) hb3
  have c2' := two_free (i := 1) hb3
  have d0 := two_cell0 hres3
  have d1 := two_cell1 hres3
  have d2 := two_free (i := 0) hres3
  have d2' := two_free (i := 1) hres3
  by_cases hy : y = 0
  · subst hy
    go_wp2_with fail
    refine (pick_any rb (q0 + 1) 4 _ (by omega) (by omega) (by omega) (R3.out.ex (Ex.new _ _))).mono ?_
    rintro e w4 ⟨x, rfl, hx0, hx3, hR4, hF4⟩
    have hb4 : w4.heap[w3.heap.size]? = some (.cells #[.int .i64 (-1), .int .i64 1, .int .i64 9999, .int .i64 10000] 3 (0, 0)) := hF4.blk (by omega) (heap_alloc_new _ _)
    have hb5 := hF4.blk (n := t3) (by omega) ((Ex.new _ _).blk hb3)
    have hres5 := hF4.blk (n := w.heap.size + 1) (by omega) ((Ex.new _ _).blk hres3)
    obtain ⟨m, hm⟩ : ∃ m : Int, w4.cell? ⟨w3.heap.size, x.toNat, none⟩ = some (.int .i64 m) := by
      have : x.toNat = 0 ∨ x.toNat = 1 ∨ x.toNat = 2 ∨ x.toNat = 3 := by omega
      rcases this with h | h | h | h <;> rw [h]
      · exact ⟨-1, by simp [World.cell?, hb4]⟩
      · exact ⟨1, by simp [World.cell?, hb4]⟩
      · exact ⟨9999, by simp [World.cell?, hb4]⟩
      · exact ⟨10000, by simp [World.cell?, hb4]⟩
    have T4 : Hid (VS (w4.setCell ⟨t3, 0, none⟩ (.int .i64 m)) (fun b => w.heap.size + 1 < b ∧ b ≠ t3) g a1) := VS_ks (VS_ks (VS_ks T3.out (fun k _ hlt => (Ex.new w3 _).block k hlt)) fun k hk hlt => hF4.block k hlt (by omega)) fun k hk _ => Below.heap_setCell _ _ _ _ hk.2
    have R4 : Hid (Rd w4 rb (q0 + 1 + 1)) := hR4
    have F4 : Hid (Fr rb w w4) := F3.out.trans (Fr.trans (Fr.of_ex (Ex.new _ _) _) hF4)
    clear c0 c1 c2 c2' d0 d1 d2 d2' hR4 hF4
    have c0 := two_cell0 hb5
    have c1 := two_cell1 hb5
    have c2 := two_free (i := 0) hb5
    have d0 := two_cell0 hres5
    have d1 := two_cell1 hres5
    have d2 := two_free (i := 0) hres5
    have d2' := two_free (i := 1) hres5
    have z4 := lt_of_block hb4
    go_wp2_with fail
    have hres6 : (w4.setCell ⟨t3, 0, none⟩ (.int .i64 m)).heap[w.heap.size + 1]? = some (.cells #[.int .i64 0, .slice none 0 0] 25 (0, 0)) := (Below.heap_setCell _ _ _ _ (by show w.heap.size + 1 ≠ t3; omega)).trans hres5
    have hb6 := two_set (u' := .int .i64 m) (v' := .slice a1 (len g) (len g)) hres6
    have hr0 := two_cell0 hb6
    have hr1 := two_cell1 hb6
    have hfin := FIN.out (w4.setCell ⟨t3, 0, none⟩ (.int .i64 m)) g a1 (.int .i64 m) (.slice a1 (len g) (len g)) (q0 + 1 + 1) T4.out (R4.out.set (by show rb < t3; omega) _) (F4.out.set (Or.inr (by show w.heap.size ≤ t3; omega)) _)
    exact bodyPost_ret (v := .agg #[.int .i64 m, .slice a1 (len g) (len g)]) (by simp [results, Tryd.results13, go_sem, hr0, hr1]) rfl ⟨m, g, a1, len g, q0 + 1 + 1, rfl, hfin.1, ⟨by have := SM.out; omega, SM.out.2⟩, by have := DP.out; omega, by omega, by omega, hfin.2.1, hfin.2.2⟩
  · have e0 : (y == 0) = false := by simp; omega
    by_cases hy1 : y = 1
    · subst hy1
      obtain ⟨olds, ho1, ho2, ho3⟩ := VS_olds T3.out
      have O3 : Hid _ := ho3
      have hl := SM.out.1
      clear ho3
      go_wp2_with (at_builtin; refine wpList_append_grows _ rfl (.tmp 23) (.tmp 25) 23 rfl 25 i0 (.agg #[.int .i64 0, .slice none 0 0]) 2 32 Tryd.underlying23 hi hz0 hz1 hz2 rfl (by decide) a1 (len g) (len g) olds rfl ?hnone ?hlo ?holds ⟨w3.heap.size, 0, none⟩ 1 1 [.int .i64 0, .slice none 0 0] rfl rfl ?c1 ?c2 (by omega) (by unfold maxLen; omega) (by omega) ?grow)
      case hnone =>
        intro h
        by_cases h0 : len g = 0
        · exact ⟨h0, h0⟩
        · obtain ⟨b, o, e, _⟩ := VS_at T3.out (by omega)
          rw [h] at e; cases e
      case hlo => rw [ho1]
      case holds => intro b hb j u hu; exact (Ex.new _ _).at (ho2 b hb j u hu)
      case c1 =>
        intro j u hj
        match j, hj with
        | 0, hj => simp at hj; subst hj; simp [Addr.add]
        | 1, hj => simp at hj; subst hj; simp [Addr.add]
      case c2 => intro u hu; simp at hu; rcases hu with rfl | rfl <;> rfl
      case grow =>
        intro v' w4 hown hgrow
        obtain ⟨_, h | ⟨gb, cap', cur, rfl, hg, hgc, hcap, _, hcs, htake⟩⟩ := hown
        · omega
        have hx4 : Ex w3 w4 := (Ex.new _ _).trans ⟨hgrow.os, hgrow.tape, hgrow.output, hgrow.size, fun k hk => hgrow.block k hk (by simp)⟩
        have hb4 := hx4.blk hb3
        have hres4 := hx4.blk hres3
        have G4 : Hid (w4.heap[gb]? = some (.cells cur 25 (0, 0))) := hgc
        have TK : Hid _ := htake
        clear hgrow hgc htake c0 c1 c2 c2' d0 d1 d2 d2' hb3 hres3 hcap hcs
        have c0 := two_cell0 hb4
        have c1 := two_cell1 hb4
        have c2 := two_free (i := 1) hb4
        have d0 := two_cell0 hres4
        have d1 := two_cell1 hres4
        have d2 := two_free (i := 0) hres4
        have d2' := two_free (i := 1) hres4
        go_wp2_with fail
        have hres6 : (w4.setCell ⟨t3, 1, none⟩ (.slice (some ⟨gb, 0, none⟩) (len g + 1) cap')).heap[w.heap.size + 1]? = some (.cells #[.int .i64 0, .slice none 0 0] 25 (0, 0)) := (Below.heap_setCell _ _ _ _ (by show w.heap.size + 1 ≠ t3; omega)).trans hres4
        have hb6 := two_set (u' := .int .i64 n) (v' := .slice (some ⟨gb, 0, none⟩) (len g + 1) cap') hres6
        have hr0 := two_cell0 hb6
        have hr1 := two_cell1 hb6
        have hks : Ks (fun b => w.heap.size + 1 < b ∧ b ≠ t3) w3 (w4.setCell ⟨t3, 1, none⟩ (.slice (some ⟨gb, 0, none⟩) (len g + 1) cap')) := fun b hb hlt => by
          rw [Below.heap_setCell _ _ _ _ hb.2]; exact hx4.block b hlt
        have hg4 : VS (w4.setCell ⟨t3, 1, none⟩ (.slice (some ⟨gb, 0, none⟩) (len g + 1) cap')) (fun b => w.heap.size + 1 < b ∧ b ≠ t3) (snoc g 0 .nil) (some ⟨gb, 0, none⟩) := by
          refine VS_snoc (olds := olds) (cur := cur) (e := 25) (a0 := none) (c0 := 0) ⟨by omega, by omega⟩ ?_ ?_ ho1 (fun i hi => ?_) (Or.inl rfl)
          · rw [Below.heap_setCell _ _ _ _ (by show gb ≠ t3; omega)]; exact G4.out
          · exact TK.out
          · obtain ⟨h0, a', k', h1, h2⟩ := O3.out i hi
            exact ⟨h0, a', k', h1, VS_ks h2 hks⟩
        have hfin := FIN.out _ _ _ (.int .i64 n) (.slice (some ⟨gb, 0, none⟩) (len g + 1) cap') (q0 + 1) hg4 ((R3.out.ex hx4).set (by show rb < t3; omega) _) ((F3.out.ex hx4).set (Or.inr (by show w.heap.size ≤ t3; omega)) _)
        exact bodyPost_ret (v := .agg #[.int .i64 n, .slice (some ⟨gb, 0, none⟩) (len g + 1) cap']) (by simp [results, Tryd.results13, go_sem, hr0, hr1]) rfl ⟨n, snoc g 0 .nil, _, cap', q0 + 1, by rw [len_snoc], hfin.1, ⟨by rw [len_snoc]; omega, Sm_snoc 0 SM.out.2 ⟨by simp [len], trivial⟩⟩, by have := dep_snoc g 0 .nil; have := DP.out; simp only [dep] at *; omega, by omega, by omega, hfin.2.1, hfin.2.2⟩
    · have e1 : (y == 1) = false := by simp; omega
      by_cases hy2 : y = 2
      · subst hy2
        clear e0 e1
        go_wp2_with fail
        go_loopw [6] (fun i wr => ∃ (k : Nat) (m : Int) (g : F) (a' : Option Addr) (c' : Nat), k ≤ 5 ∧ i = .int .i64 k ∧ VS wr (fun b => w.heap.size + 1 < b ∧ b ≠ t3) g a' ∧ (len g ≤ 1000000000 ∧ Sm g) ∧ dep g ≤ 4 + k ∧ Rd wr rb (q0 + 1) ∧ Fr rb w wr ∧ wr.heap[t3]? = some (.cells #[.int .i64 m, .slice a' (len g) c'] 25 (0, 0)) ∧ wr.heap[w.heap.size + 1]? = some (.cells #[.int .i64 0, .slice none 0 0] 25 (0, 0))) (fun i _ => 5 - (intOf i).toNat)
        case atStart => exact ⟨0, n, g, a1, len g, by omega, rfl, T3.out, ⟨by have := SM.out; omega, SM.out.2⟩, DP.out, R3.out, F3.out, hb3, hres3⟩
        case round =>
          obtain ⟨k, m, g', a', c', hk, rfl, hg, hsm, hdg, hrd, hfr, ht3c, hrsc⟩ := hrel
          have G : Hid (VS wr (fun b => w.heap.size + 1 < b ∧ b ≠ t3) g' a') := hg
          have SG : Hid (len g' ≤ 1000000000 ∧ Sm g') := hsm
          clear hg hsm c0 c1 c2 c2' d0 d1 d2 d2'
          have c0 := two_cell0 ht3c
          have c1 := two_cell1 ht3c
          have c2 := two_free (i := 0) ht3c
          have c2' := two_free (i := 1) ht3c
          have d0 := two_cell0 hrsc
          have d1 := two_cell1 hrsc
          have d2 := two_free (i := 0) hrsc
          have d2' := two_free (i := 1) hrsc
          have c5 := lt_of_block ht3c
          by_cases hlt : k < 5
          · go_wp2_with fail
            go_roundw
            case rel =>
              have hks : Ks (fun b => w.heap.size + 1 < b ∧ b ≠ t3) wr (((wr.setCell ⟨t3, 0, none⟩ (.int .i64 0)).setCell ⟨t3, 1, none⟩ (.slice (some ⟨wr.heap.size, 0, none⟩) 2 2)).alloc (.cells #[.int .i64 m, .slice a' (len g') c', .int .i64 0, .slice none 0 0] 25)) := fun b hb hlt => by
                rw [Below.heap_alloc _ _ _ (by rw [World.size_setCell, World.size_setCell]; exact hlt), Below.heap_setCell _ _ _ _ hb.2, Below.heap_setCell _ _ _ _ hb.2]
              have hnew : ∀ i, (((wr.setCell ⟨t3, 0, none⟩ (.int .i64 0)).setCell ⟨t3, 1, none⟩ (.slice (some ⟨wr.heap.size, 0, none⟩) 2 2)).alloc (.cells #[.int .i64 m, .slice a' (len g') c', .int .i64 0, .slice none 0 0] 25)).cell? ⟨wr.heap.size, i, none⟩ = #[.int .i64 m, .slice a' (len g') c', .int .i64 0, .slice none 0 0][i]? := fun i => by
                have := World.cell?_alloc_new ((wr.setCell ⟨t3, 0, none⟩ (.int .i64 0)).setCell ⟨t3, 1, none⟩ (.slice (some ⟨wr.heap.size, 0, none⟩) 2 2)) #[.int .i64 m, .slice a' (len g') c', .int .i64 0, .slice none 0 0] 25 i
                rw [World.size_setCell, World.size_setCell] at this; exact this
              exact ⟨k + 1, 0, two m g' 0 .nil, some ⟨wr.heap.size, 0, none⟩, 2, by omega, by go_num, VS_two (f := two m g' 0 .nil) (k0 := c') (k1 := 0) (a1 := none) rfl ⟨by omega, by omega⟩ (hnew 0) (hnew 1) (hnew 2) (hnew 3) (VS_ks G.out hks) (Or.inl rfl), Sm_two m 0 SG.out ⟨by simp [len], trivial⟩, by simp only [two, dep]; omega, ((hrd.set (by show rb < t3; omega) _).set (by show rb < t3; omega) _).ex (Ex.new _ _), ((hfr.set (Or.inr (by show w.heap.size ≤ t3; omega)) _).set (Or.inr (by show w.heap.size ≤ t3; omega)) _).alloc _, (Ex.new _ _).blk (two_set ht3c), (Ex.new _ _).blk ((Below.heap_setCell _ _ _ _ (by show w.heap.size + 1 ≠ t3; omega)).trans ((Below.heap_setCell _ _ _ _ (by show w.heap.size + 1 ≠ t3; omega)).trans hrsc))⟩
            case measure => simp [intOf]; omega
          · go_wp2_with fail
            have hb6 := two_set (u' := .int .i64 m) (v' := .slice a' (len g') c') hrsc
            have hr0 := two_cell0 hb6
            have hr1 := two_cell1 hb6
            have hfin := FIN.out wr g' a' (.int .i64 m) (.slice a' (len g') c') (q0 + 1) G.out hrd hfr
            exact bodyPost_ret (v := .agg #[.int .i64 m, .slice a' (len g') c']) (by simp [results, Tryd.results13, go_sem, hr0, hr1]) rfl ⟨m, g', a', c', q0 + 1, rfl, hfin.1, SG.out, by omega, by omega, by omega, hfin.2.1, hfin.2.2⟩
      · have e2 : (y == 2) = false := by simp; omega
        go_wp2_with fail
        have hb6 := two_set (u' := .int .i64 n) (v' := .slice a1 (len g) (len g)) hres3
        have hr0 := two_cell0 hb6
        have hr1 := two_cell1 hb6
        have hfin := FIN.out w3 g a1 (.int .i64 n) (.slice a1 (len g) (len g)) (q0 + 1) T3.out R3.out F3.out
        exact bodyPost_ret (v := .agg #[.int .i64 n, .slice a1 (len g) (len g)]) (by simp [results, Tryd.results13, go_sem, hr0, hr1]) rfl ⟨n, g, a1, len g, q0 + 1, rfl, hfin.1, ⟨by have := SM.out; omega, SM.out.2⟩, by have := DP.out; omega, by omega, by omega, hfin.2.1, hfin.2.2⟩

end Go.Proofs.YtngheeeadekdmaaDoor
