/- Walks: places drawn. -/
import Derived.Test.YtdlbfedepekkmaaD4

import Derived.Test.YtdlbfedepekkmaaPL4

import Derived.Test.YtdlbfedepekkmaaV7

import Derived.Deep.RegionLaw

namespace Go.Proofs.Ytdlbfedepekkmaa

open Go.RowKit Go.Deep

attribute [local go_sem ↓] Go.wp_at_zero Go.wp_at_succ

theorem step_append_own' {P : Program} {w : World} {ops : Array Oper} {o : Oper} {a : Act} {K : Act → World → Prop} {Q : Exit → Act → World → Prop} {E : Prop} (hgd : o.guard = none) (s x : Operand) (t : TypeId)
    (ho : o.op = .call { callee := .builtin .append, args := #[s, x], argTypes := #[t, t] })
    (base : Nat) (e : TypeId) (i : TypeInfo) (z : Value) (size bytes : Nat) (ht : P.underlying t = some (.slice e)) (hi : P.info? e = some i) (hz : i.zero = some z)
    (hsize : i.size = size) (hby : i.bytes = bytes) (hzs : z.cells.size = size) (hsz : 0 < size)
    (v : Value) (n : Nat) (xs : List Value) (hs : a.eval s = v) (hown : w.ownsRow base e size v n xs)
    (ad : Addr) (m c : Nat) (news : List Value) (hx : a.eval x = .slice (some ad) m c) (hl : news.length = m * size) (hnews : ∀ j u, news[j]? = some u → w.cell? (ad.add j) = some u) (h1 : ∀ u ∈ news, u.oneCell' = true)
    (h63 : n + m ≤ maxLen) (hbytes : (n + m) * bytes ≤ 140737488355328) (hbase : base ≤ w.heap.size)
    (h : ∀ v' w', w'.ownsRow base e size v' (n + m) (xs ++ news) → w.grownBy w' v.ownBlock → K (a.put o.dst v') w') :
    if Region.wanted o (yielded ops a.tmps) = true then Oper.wp P o a w K Q else E := by
  have hw : Region.wanted o (yielded ops a.tmps) = true := by simp [Region.wanted, hgd]
  rw [if_pos hw]
  exact wp_append_own w s x t ho base e i z size bytes ht hi hz hsize hby hzs hsz v n xs hs hown ad m c news hx hl hnews h1 h63 hbytes hbase fun v' w' h2 h3 _ => h v' w' h2 h3

theorem pl_set1 {w : World} {b : Nat} {u v v' : Value} {t : TypeId} (h : w.heap[b]? = some (.cells #[u, v] t (0, 0))) : (w.setCell ⟨b, 1, none⟩ v').heap[b]? = some (.cells #[u, v'] t (0, 0)) := by
  simp [World.setCell, Array.getElem?_modify, h]
theorem pl_set0 {w : World} {b : Nat} {u v u' : Value} {t : TypeId} (h : w.heap[b]? = some (.cells #[u, v] t (0, 0))) : (w.setCell ⟨b, 0, none⟩ u').heap[b]? = some (.cells #[u', v] t (0, 0)) := by
  simp [World.setCell, Array.getElem?_modify, h]

set_option maxHeartbeats 1000000 in
theorem of_any (rb p b n c : Nat) (w : World) (hp : p ≤ 1000000) (hn : 1 ≤ n) (hn2 : n ≤ 1000) (hrb : b ≠ rb) (hR : Rd w rb p) (hS : ∀ i, i < n → ∃ s, w.cell? ⟨b, i, none⟩ = some (.string s)) :
    Calls Try.prog 21 #[.pointer (some ⟨rb, 0, none⟩), .slice (some ⟨b, 0, none⟩) n c] w fun e w' => ∃ s, e = .returned (.string s) ∧ Rd w' rb (p + 1) ∧ Fr rb w w' := by
  have S : Hid (∀ i, i < n → ∃ s, w.cell? ⟨b, i, none⟩ = some (.string s)) := hS
  clear hS
  go_enter Try.func21, Try.ntmps21
  go_wp2_with fail
  refine (pick_any rb p n w (by omega) (by omega) hp hR).mono ?_
  rintro e w1 ⟨x, rfl, hx0, hx1, hR1, hF1⟩
  obtain ⟨s, hs⟩ := S.out x.toNat (by omega)
  have hs1 := hF1.at (by exact hrb) hs
  have R1 : Hid (Rd w1 rb (p + 1)) := hR1
  have F1 : Hid (Fr rb w w1) := hF1
  clear hs hR1 hF1
  go_wp2_with fail
  go_ret
  exact ⟨s, rfl, R1.out, F1.out⟩

set_option maxRecDepth 100000 in
set_option maxHeartbeats 2000000 in
theorem l71Place_any (rb p : Nat) (w : World) (hp : p ≤ 60000) (hR : Rd w rb p) :
    Calls Try.prog 12 #[.pointer (some ⟨rb, 0, none⟩)] w fun e w' => ∃ (s : ByteArray) (v : Value) (xs : List Int) (q : Nat), e = .returned (.agg #[.string s, v]) ∧ Own w' w.heap.size v xs ∧ xs.length ≤ 5 ∧ p ≤ q ∧ q ≤ p + 10 ∧ Rd w' rb q ∧ Fr rb w w' := by
  have hrb := hR.blk
  have R : Hid (Rd w rb p) := hR
  clear hR
  obtain ⟨i0, hi, hz0, hz1, hz2⟩ := info_parts Try.info3
  go_enter Try.func12, Try.ntmps12
  go_wp2_with fail
  refine (of_any rb p (w.heap.size + 1) 6 6 _ (by omega) (by omega) (by omega) (by omega) (R.out.ex ((Ex.new _ _).alloc _)) (fun i hi => ?lits)).mono ?_
  case lits =>
    have : i = 0 ∨ i = 1 ∨ i = 2 ∨ i = 3 ∨ i = 4 ∨ i = 5 := by omega
    rcases this with rfl | rfl | rfl | rfl | rfl | rfl <;> exact ⟨_, by simp; rfl⟩
  rintro e w1 ⟨s, rfl, hR1, hF1⟩
  have hres1 := hF1.blk (n := w.heap.size) (by omega) ((Ex.new _ _).blk (heap_alloc_new _ _))
  have F1 : Hid (Fr rb w w1) := (Fr.of_ex ((Ex.new _ _).alloc _) rb).trans hF1
  have z1 := lt_of_block hres1
  clear hF1
  have R1 : Hid (Rd w1 rb (p + 1)) := hR1
  clear hR1
  go_wp2_with fail
  refine (pick_any rb (p + 1) 4 _ (by omega) (by omega) (by omega) (R1.out.ex (Ex.new _ _))).mono ?_
  rintro e w2 ⟨x, rfl, hx0, hx3, hR2, hF2⟩
  obtain ⟨t3, ht3⟩ : ∃ t3, t3 = w1.heap.size := ⟨_, rfl⟩
  rw [← ht3]
  have hb2 := hF2.blk (n := t3) (by omega) (by rw [ht3]; exact heap_alloc_new w1 (.cells #[.string s, .slice none 0 0] 25))
  have hres2 := hF2.blk (n := w.heap.size) (by omega) ((Ex.new _ _).blk hres1)
  have F2 : Hid (Fr rb w w2) := F1.out.trans ((Fr.of_ex (Ex.new _ _) rb).trans hF2)
  have zt : w.heap.size < t3 := by omega
  have z2 := lt_of_block hb2
  clear hF2 hres1 z1 ht3
  go_wp2_with fail
  go_loopw [4] (fun i wr => ∃ (k : Nat) (v : Value) (xs : List Int) (q : Nat), k ≤ 3 ∧ i = .int .i64 k ∧ Own wr (t3 + 1) v xs ∧ xs.length + k ≤ 3 ∧ p ≤ q ∧ q + k ≤ p + 5 ∧ Rd wr rb q ∧ Fr rb w wr ∧ wr.heap[t3]? = some (.cells #[.string s, v] 25 (0, 0)) ∧ wr.heap[w.heap.size]? = some (.cells #[.string ⟨#[]⟩, .slice none 0 0] 25 (0, 0))) (fun i _ => (intOf i).toNat)
  case atStart => exact ⟨x.toNat, _, [], p + 2, by omega, by rw [Int.toNat_of_nonneg hx0], ⟨rfl, Or.inl ⟨rfl, rfl⟩⟩, by simp; omega, by omega, by omega, hR2, F2.out, hb2, hres2⟩
  case round =>
    obtain ⟨k, v, xs, q, hk, rfl, hown, hxl, hq1, hq2, hrd, hfr, htb, hrs⟩ := hrel
    have O : Hid (Own wr (t3 + 1) v xs) := hown
    have RD : Hid (Rd wr rb q) := hrd
    have FF : Hid (Fr rb w wr) := hfr
    clear hown hrd hfr hR2
    have c0 := two_cell0 htb
    have c1 := two_cell1 htb
    have c2 := two_free (i := 1) htb
    by_cases hk0 : 0 < k
    · go_wp2_with fail
      have P3 : Hid (Calls Try.prog 13 #[.pointer (some ⟨rb, 0, none⟩), .int .i64 2] wr.drew (fun e w' => ∃ x : Int, e = .returned (.int .i64 x) ∧ 0 ≤ x ∧ x < 2 ∧ Rd w' rb (q + 1) ∧ Fr rb wr.drew w')) := pick_any rb q 2 _ (by omega) (by omega) (by omega) (RD.out.ex (Ex.refl _).drew)
      go_region_law (first
        | (go_simp; go_at_call 13; refine P3.out.mono ?_; rintro e w3 ⟨y, rfl, hy0, hy1, hR3, hF3⟩; have htb3 := hF3.blk (n := t3) (by omega) (show wr.drew.heap[t3]? = _ from htb); have d1 := two_cell1 htb3; have d3 := lt_of_block htb3; have O3 : Hid (Own w3 (t3 + 1) v xs) := Own.keep (show Own wr.drew (t3 + 1) v xs from O.out) (hF3.kp (by omega)))
        | (refine step_append_own' (by rfl) _ _ _ (by rfl) (t3 + 1) 3 i0 (.int .i64 0) 1 8 Try.underlying23 hi hz0 hz1 hz2 rfl (by omega) v xs.length (xs.map (Value.int .i64)) (by rfl) (World.ownsRow.alloc O3.out _) ⟨w3.heap.size, 0, none⟩ 1 1 [.int .i64 y] (by rfl) (by rfl) (World.news_of_block (cs := #[.int .i64 y]) (t := 3) (fr := (0, 0)) (heap_alloc_new w3 _)) (by intro u hu; simp at hu; subst hu; rfl) (by unfold maxLen; omega) (by omega) (by rw [World.size_alloc]; omega) ?_; intro v4 w4 hown4 hgrow4; have O4 : Hid (Own w4 (t3 + 1) v4 (xs ++ [y])) := (by show World.ownsRow _ _ _ _ _ _ _; rw [List.length_append, List.map_append]; exact hown4); have hbl : Below (t3 + 1) w3 w4 := ((Below.refl _ w3).alloc (by omega) _).grown hgrow4 (by rw [World.size_alloc]; omega) O3.out.row; have htb4 := (hbl.block t3 (by omega)).trans htb3; have g1 := two_cell1 htb4; have g2 := two_free (i := 1) htb4; obtain ⟨la, lc, hv4, _⟩ := O4.out.PA; subst hv4))
      all_goals
        have F4 : Hid (Fr rb w w4) := (Fr.trans (FF.out.drew) hF3).below hbl (by omega)
        have R4 : Hid (Rd w4 rb (q + 1)) := hR3.below hbl (by omega)
        have hrs4 := (hbl.block w.heap.size (by omega)).trans (hF3.blk (n := w.heap.size) (by omega) (show wr.drew.heap[w.heap.size]? = _ from hrs))
        have RS4 : Hid _ := hrs4
        have TB4 : Hid _ := htb4
        clear hF3 hR3 hbl hrs4 htb4 hrs
        go_wp2_with fail
        go_roundw
        case rel => exact ⟨k - 1, .slice la (xs.length + 1) lc, xs ++ [y], q + 1, by omega, by rw [Int.natCast_sub (by omega)]; rfl, by have := O4.out; simp only [List.length_append, List.length_cons, List.length_nil] at this; exact this.keep ((Kp.refl _ _).set (Or.inl (by show t3 < _; omega)) _), by simp only [List.length_append, List.length_cons, List.length_nil]; omega, by omega, by omega, R4.out.set (by show rb < t3; omega) _, F4.out.set (Or.inr (by show w.heap.size ≤ t3; omega)) _, pl_set1 TB4.out, (Below.heap_setCell _ _ _ _ (by show w.heap.size ≠ t3; omega)).trans RS4.out⟩
        case measure => simp [intOf]; omega
    · have FIN : Hid (∀ (wf : World) (s' : ByteArray) (v' : Value) (xs' : List Int) (q' : Nat), Own wf (t3 + 1) v' xs' → Rd wf rb q' → Fr rb w wf → ∀ W, W = (wf.setCell ⟨w.heap.size, 0, none⟩ (.string s')).setCell ⟨w.heap.size, 1, none⟩ v' → Own W w.heap.size v' xs' ∧ Rd W rb q' ∧ Fr rb w W) := by
        intro wf s' v' xs' q' h1 h2 h3 W hW
        subst hW
        refine ⟨?_, (h2.set (by show rb < w.heap.size; omega) _).set (by show rb < w.heap.size; omega) _, (h3.set (Or.inr (Nat.le_refl _)) _).set (Or.inr (Nat.le_refl _)) _⟩
        exact (h1.keep ((((Kp.refl _ _).set (Or.inl (by show w.heap.size < t3 + 1; omega)) _).set (Or.inl (by show w.heap.size < t3 + 1; omega)) _))).lo (by omega)
      have hk00 : k = 0 := by omega
      subst hk00
      go_wp2_with fail
      refine (pick_any rb q 20 wr (by omega) (by omega) (by omega) RD.out).mono ?_
      rintro e w3 ⟨z, rfl, hz0', hz1', hR3, hF3⟩
      have htb3 := hF3.blk (n := t3) (by omega) htb
      have hrs3 := hF3.blk (n := w.heap.size) (by omega) hrs
      have O3 : Hid (Own w3 (t3 + 1) v xs) := O.out.keep (hF3.kp (by omega))
      have F3 : Hid (Fr rb w w3) := FF.out.trans hF3
      have R3 : Hid (Rd w3 rb (q + 1)) := hR3
      have zt3 := lt_of_block htb3
      clear c0 c1 c2 hF3 hR3 htb hrs
      obtain ⟨pa, pc, hv, _⟩ := O3.out.PA
      subst hv
      by_cases hy0 : z = 0
      · subst hy0
        have c0 := two_cell0 htb3
        have c1 := two_cell1 htb3
        have c2 := two_free (i := 0) htb3
        go_wp2_with fail
        refine (of_any rb (q + 1) w3.heap.size 2 2 _ (by omega) (by omega) (by omega) (by omega) (R3.out.ex (Ex.new _ _)) (fun i hi => ?lits2)).mono ?_
        case lits2 =>
          have : i = 0 ∨ i = 1 := by omega
          rcases this with rfl | rfl <;> exact ⟨_, by simp; rfl⟩
        rintro e w5 ⟨s', rfl, hR5, hF5⟩
        have htb5 := hF5.blk (n := t3) (by omega) ((Ex.new _ _).blk htb3)
        have hrs5 := hF5.blk (n := w.heap.size) (by omega) ((Ex.new _ _).blk hrs3)
        have O5 : Hid (Own w5 (t3 + 1) _ xs) := (O3.out.keep (Kp.of_below (Ex.new _ _) _)).keep (hF5.kp (by omega))
        have F5 : Hid (Fr rb w w5) := F3.out.trans ((Fr.of_ex (Ex.new _ _) rb).trans hF5)
        have R5 : Hid (Rd w5 rb (q + 1 + 1)) := hR5
        have zt5 := lt_of_block htb5
        have htb6 := pl_set0 (u' := .string s') htb5
        have hrs6 := (Below.heap_setCell w5 ⟨t3, 0, none⟩ (.string s') w.heap.size (by show w.heap.size ≠ t3; omega)).trans hrs5
        have O6 : Hid (Own (w5.setCell ⟨t3, 0, none⟩ (.string s')) (t3 + 1) _ xs) := O5.out.keep ((Kp.refl _ _).set (Or.inl (by show t3 < _; omega)) _)
        have F6 : Hid (Fr rb w (w5.setCell ⟨t3, 0, none⟩ (.string s'))) := F5.out.set (Or.inr (by show w.heap.size ≤ t3; omega)) _
        have R6 : Hid (Rd (w5.setCell ⟨t3, 0, none⟩ (.string s')) rb (q + 1 + 1)) := R5.out.set (by show rb < t3; omega) _
        clear c0 c1 c2 hR5 hF5 htb3 hrs3 htb6
        have c0 := two_cell0 htb5
        have c1 := two_cell1 htb5
        have c2 := two_free (i := 0) htb5
        have d0 := two_cell0 hrs5
        have d1 := two_cell1 hrs5
        have d2 := two_free (i := 0) hrs5
        have d2' := two_free (i := 1) hrs5
        have HB : Hid _ := two_set (u' := .string s') (v' := .slice pa xs.length pc) hrs6
        clear hrs6
        go_wp2_with fail
        have hr0 := two_cell0 HB.out
        have hr1 := two_cell1 HB.out
        have hfin := FIN.out _ s' _ xs (q + 1 + 1) O6.out R6.out F6.out _ rfl
        exact bodyPost_ret (v := .agg #[.string s', .slice pa xs.length pc]) (by simp [results, Try.results12, go_sem, hr0, hr1]) rfl ⟨s', _, xs, q + 1 + 1, rfl, hfin.1, by omega, by omega, by omega, hfin.2.1, hfin.2.2⟩
      · have e0 : (z == 0) = false := by simp [hy0]
        by_cases hy1 : z = 1
        · subst hy1
          clear e0
          have c0 := two_cell0 htb3
          have c1 := two_cell1 htb3
          have c2 := two_free (i := 1) htb3
          have X3 : Hid (∀ w', Ex w3 w' → Calls Try.prog 13 #[.pointer (some ⟨rb, 0, none⟩), .int .i64 2] w' (fun e w'' => ∃ x : Int, e = .returned (.int .i64 x) ∧ 0 ≤ x ∧ x < 2 ∧ Rd w'' rb (q + 1 + 1) ∧ Fr rb w' w'')) := fun w' h => pick_any rb (q + 1) 2 _ (by omega) (by omega) (by omega) (R3.out.ex h)
          have HLIT : Hid (∀ y : Int, 0 ≤ y → y < 2 → (#[Value.int .i64 (-1), Value.int .i64 2] : Array Value)[y.toNat]? = some (.int .i64 (3 * y - 1))) := fun y h0 h1 => by
            have : y = 0 ∨ y = 1 := by omega
            rcases this with rfl | rfl <;> rfl
          have HLI2 : Hid (∀ y : Int, 0 ≤ y → y < 2 → ∀ h : y.toNat < ([Value.int .i64 (-1), Value.int .i64 2] : List Value).length, ([Value.int .i64 (-1), Value.int .i64 2] : List Value)[y.toNat]'h = .int .i64 (3 * y - 1)) := fun y h0 h1 h => by
            have : y = 0 ∨ y = 1 := by omega
            rcases this with rfl | rfl <;> rfl
          have FB3 : Hid (w3.heap[t3]? = some (.cells #[.string s, .slice pa xs.length pc] 25 (0, 0)) ∧ w3.heap[w.heap.size]? = some (.cells #[.string ⟨#[]⟩, .slice none 0 0] 25 (0, 0))) := ⟨htb3, hrs3⟩
          clear htb3 hrs3
          go_wp2_with fail
          go_region_law (first
            | (refine step_append_own' (by rfl) _ _ _ (by rfl) (t3 + 1) 3 i0 (.int .i64 0) 1 8 Try.underlying23 hi hz0 hz1 hz2 rfl (by omega) (.slice pa xs.length pc) xs.length (xs.map (Value.int .i64)) (by rfl) (by first | exact World.ownsRow.alloc O5.out _ | exact World.ownsRow.alloc (World.ownsRow.alloc O5.out _) _) ⟨_, 0, none⟩ 1 1 [.int .i64 (3 * y - 1)] (by rfl) (by rfl) (by first | exact World.news_of_block (cs := #[.int .i64 (3 * y - 1)]) (t := 3) (fr := (0, 0)) (heap_alloc_new w5 _) | exact World.news_of_block (cs := #[.int .i64 (3 * y - 1)]) (t := 3) (fr := (0, 0)) (heap_alloc_at _ _ (by rw [World.size_alloc]))) (by intro u hu; simp at hu; subst hu; rfl) (by unfold maxLen; omega) (by omega) (by first | (rw [World.size_alloc]; omega) | (rw [World.size_alloc, World.size_alloc]; omega)) ?_; intro v6 w6 hown6 hgrow6; have O6 : Hid (Own w6 (t3 + 1) v6 (xs ++ [3 * y - 1])) := (by show World.ownsRow _ _ _ _ _ _ _; rw [List.length_append, List.map_append]; exact hown6); have hbl : Below (t3 + 1) w5 w6 := (by first | exact ((Below.refl _ w5).alloc (by omega) _).grown hgrow6 (by rw [World.size_alloc]; omega) O5.out.row | exact (((Below.refl _ w5).alloc (by omega) _).alloc (by rw [World.size_alloc]; omega) _).grown hgrow6 (by rw [World.size_alloc, World.size_alloc]; omega) O5.out.row); have htb6 := (hbl.block t3 (by omega)).trans htb5; have g1 := two_cell1 htb6; have g2 := two_free (i := 1) htb6; obtain ⟨la, lc, hv6, _⟩ := O6.out.PA; subst hv6)
            | (go_simp; go_at_call 13; refine (X3.out _ (by first | exact (Ex.refl _).drew | exact (Ex.refl _).drew.alloc _)).mono ?_; rintro e w5 ⟨y, rfl, hy0', hy1', hR5, hF5⟩; have hF5' : Fr rb w3 w5 := Fr.trans (Fr.of_ex (by first | exact (Ex.refl _).drew | exact (Ex.refl _).drew.alloc _) rb) hF5; have htb5 := hF5'.blk (n := t3) (by omega) FB3.out.1; have hrs5 := hF5'.blk (n := w.heap.size) (by omega) FB3.out.2; have h1 := two_cell1 htb5; have h3 := lt_of_block htb5; have O5 : Hid (Own w5 (t3 + 1) (.slice pa xs.length pc) xs) := O3.out.keep (hF5'.kp (by omega)); have hl := HLIT.out y hy0' hy1'; have hl2 := HLI2.out y hy0' hy1'; first | (have hl5 : w5.cell? ⟨w3.heap.size, y.toNat, none⟩ = some (.int .i64 (3 * y - 1)) := hF5.at (by show w3.heap.size ≠ rb; omega) ((World.cell?_alloc_new w3.drew #[.int .i64 (-1), .int .i64 2] 3 y.toNat).trans hl)) | skip))
          all_goals
            have F6 : Hid (Fr rb w w6) := (F3.out.trans hF5').below hbl (by omega)
            have R6 : Hid (Rd w6 rb (q + 1 + 1)) := hR5.below hbl (by omega)
            have hrs6 := (hbl.block w.heap.size (by omega)).trans hrs5
            have O7 : Hid (Own (w6.setCell ⟨t3, 1, none⟩ (.slice la (xs.length + 1) lc)) (t3 + 1) (.slice la (xs.length + 1) lc) (xs ++ [3 * y - 1])) := by have := O6.out; simp only [List.length_append, List.length_cons, List.length_nil] at this; exact this.keep ((Kp.refl _ _).set (Or.inl (by show t3 < _; omega)) _)
            have F7 : Hid (Fr rb w (w6.setCell ⟨t3, 1, none⟩ (.slice la (xs.length + 1) lc))) := F6.out.set (Or.inr (by show w.heap.size ≤ t3; omega)) _
            have R7 : Hid (Rd (w6.setCell ⟨t3, 1, none⟩ (.slice la (xs.length + 1) lc)) rb (q + 1 + 1)) := R6.out.set (by show rb < t3; omega) _
            have HB : Hid _ := two_set (u' := .string s) (v' := .slice la (xs.length + 1) lc) ((Below.heap_setCell w6 ⟨t3, 1, none⟩ (.slice la (xs.length + 1) lc) w.heap.size (by show w.heap.size ≠ t3; omega)).trans hrs6)
            have zt6 := lt_of_block htb6
            have k0 := two_cell0 htb6
            have d0 := two_cell0 hrs6
            have d1 := two_cell1 hrs6
            have d2 := two_free (i := 0) hrs6
            have d2' := two_free (i := 1) hrs6
            clear hF5 hF5' hR5 hbl hrs6 htb6 htb5 hrs5 hown6 hgrow6 hl hl2 O5 O6 F6 R6
            go_wp2_with fail
            have hr0 := two_cell0 HB.out
            have hr1 := two_cell1 HB.out
            have hfin := FIN.out _ s _ (xs ++ [3 * y - 1]) (q + 1 + 1) O7.out R7.out F7.out _ rfl
            exact bodyPost_ret (v := .agg #[.string s, .slice la (xs.length + 1) lc]) (by simp [results, Try.results12, go_sem, hr0, hr1]) rfl ⟨s, _, xs ++ [3 * y - 1], q + 1 + 1, rfl, hfin.1, by simp only [List.length_append, List.length_cons, List.length_nil]; omega, by omega, by omega, hfin.2.1, hfin.2.2⟩
        · have e1 : (z == 1) = false := by simp [hy1]
          have c0 := two_cell0 htb3
          have c1 := two_cell1 htb3
          have d0 := two_cell0 hrs3
          have d1 := two_cell1 hrs3
          have d2 := two_free (i := 0) hrs3
          have d2' := two_free (i := 1) hrs3
          go_wp2_with fail
          have hb6 := two_set (u' := .string s) (v' := .slice pa xs.length pc) hrs3
          have hr0 := two_cell0 hb6
          have hr1 := two_cell1 hb6
          have hfin := FIN.out w3 s _ xs (q + 1) O3.out R3.out F3.out _ rfl
          exact bodyPost_ret (v := .agg #[.string s, .slice pa xs.length pc]) (by simp [results, Try.results12, go_sem, hr0, hr1]) rfl ⟨s, _, xs, q + 1, rfl, hfin.1, by omega, by omega, by omega, hfin.2.1, hfin.2.2⟩
end Go.Proofs.Ytdlbfedepekkmaa
