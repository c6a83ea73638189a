/- Walks: types drawn, some spoilt. -/
import Derived.Test.YthdihpcpobhadaaDoorD2

namespace Go.Proofs.YthdihpcpobhadaaDoor

open Go.RowKit Go.Deep

open Go.WideShapes (add_plain)

attribute [local go_sem ↓] Go.wp_at_zero Go.wp_at_succ

theorem fits_sm : ∀ (r : Nat) (f : F), fits r f = true → len f ≤ 2 ∧ Sm f
  | 0, f, h => by simp [fits] at h
  | r + 1, .nil, _ => ⟨by simp [len], trivial⟩
  | r + 1, .node b o n k (.nil), h => by simp [fits, len] at h
  | r + 1, .node b o n k (.node b' o' n' k' .nil), h => by
    simp [fits, len, kid] at h
    have h1 := fits_sm r k h.1
    have h2 := fits_sm r k' h.2
    exact ⟨by simp [len], ⟨by omega, h1.2, ⟨by omega, h2.2, trivial⟩⟩⟩
  | r + 1, .node b o n k (.node b' o' n' k' (.node _ _ _ _ _)), h => by simp [fits, len] at h

theorem fits_dep : ∀ (r : Nat) (f : F), fits r f = true → dep f < r
  | 0, f, h => by simp [fits] at h
  | r + 1, .nil, _ => by simp [dep]
  | r + 1, .node b o n k (.nil), h => by simp [fits, len] at h
  | r + 1, .node b o n k (.node b' o' n' k' .nil), h => by
    simp [fits, len, kid] at h
    have h1 := fits_dep r k h.1
    have h2 := fits_dep r k' h.2
    simp only [dep]; omega
  | r + 1, .node b o n k (.node b' o' n' k' (.node _ _ _ _ _)), h => by simp [fits, len] at h

theorem Sm_two {a b : F} (n m : Int) (ha : len a ≤ 1000000000 ∧ Sm a) (hb : len b ≤ 1000000000 ∧ Sm b) : len (two n a m b) ≤ 1000000000 ∧ Sm (two n a m b) :=
  ⟨by rw [len_two]; omega, ⟨ha.1, ha.2, ⟨hb.1, hb.2, trivial⟩⟩⟩

/-- One more behind. -/
def snoc : F → Int → F → F
  | .nil, n, k => .node 0 0 n k .nil
  | .node b o m k' r, n, k => .node b o m k' (snoc r n k)
theorem len_snoc : ∀ (f : F) (n : Int) (k : F), len (snoc f n k) = len f + 1
  | .nil, _, _ => rfl
  | .node _ _ _ _ r, n, k => by simp [snoc, len, len_snoc r n k]
theorem kid_snoc : ∀ (f : F) (n : Int) (k : F) (i : Nat), kid (snoc f n k) i = if i < len f then kid f i else if i = len f then k else .nil
  | .nil, n, k, 0 => by simp [snoc, kid, len]
  | .nil, n, k, i + 1 => by simp [snoc, kid, len]
  | .node _ _ _ _ r, n, k, 0 => by simp [snoc, kid, len]
  | .node _ _ _ _ r, n, k, i + 1 => by simp [snoc, kid, len, kid_snoc r n k i]
theorem dep_snoc : ∀ (f : F) (n : Int) (k : F), dep (snoc f n k) = max (dep f) (dep k + 1)
  | .nil, _, _ => by simp [snoc, dep]
  | .node _ _ _ k' r, n, k => by simp only [snoc, dep, dep_snoc r n k]; omega
theorem Sm_snoc : ∀ {f : F} (n : Int) {k : F}, Sm f → len k ≤ 1000000000 ∧ Sm k → Sm (snoc f n k)
  | .nil, _, _, _, hk => ⟨hk.1, hk.2, trivial⟩
  | .node _ _ _ _ _, n, _, hf, hk => ⟨hf.1, hf.2.1, Sm_snoc n hf.2.2 hk⟩

/-- The cells of a list of types. -/
theorem SA_olds {w : World} {S : Nat → Prop} {f : F} {a : Option Addr} (h : SA w S f a) : ∃ olds : List Value, olds.length = len f ∧ (∀ b, a = some b → ∀ j u, olds[j]? = some u → w.cell? (b.add j) = some u) ∧
    ∀ i, i < len f → ∃ a' cap, olds[i]? = some (.slice a' (len (kid f i)) cap) ∧ SA w S (kid f i) a' := by
  by_cases h0 : len f = 0
  · exact ⟨[], by simp [h0], by intro _ _ j u hu; simp at hu, fun i hi => by omega⟩
  · obtain ⟨b, o, rfl, _, _, hk⟩ := SA_at h (by omega)
    refine ⟨(List.range (len f)).map fun i => (w.cell? ⟨b, o + i, none⟩).getD default, by simp, ?_, ?_⟩
    · intro b' hb' j u hu
      cases hb'
      rw [List.getElem?_map] at hu
      by_cases hj : j < len f
      · rw [List.getElem?_range hj] at hu
        obtain ⟨a', cap, hc, _⟩ := hk j hj
        simp [hc] at hu
        subst hu
        rw [add_plain]; exact hc
      · rw [List.getElem?_eq_none (by simpa using hj)] at hu; simp at hu
    · intro i hi
      obtain ⟨a', cap, hc, ht⟩ := hk i hi
      exact ⟨a', cap, by rw [List.getElem?_map, List.getElem?_range hi]; simp [hc], ht⟩

theorem SA_snoc {w : World} {S : Nat → Prop} {f k : F} {n : Int} {olds : List Value} {g : Nat} {cur : Array Value} {e : TypeId} {a0 : Option Addr} {c0 : Nat} (hS : S g) (hg : w.heap[g]? = some (.cells cur e (0, 0)))
    (hcur : cur.toList.take (len f + 1) = olds ++ [.slice a0 (len k) c0]) (hl : olds.length = len f) (hk : ∀ i, i < len f → ∃ a' cap, olds[i]? = some (.slice a' (len (kid f i)) cap) ∧ SA w S (kid f i) a') (h0 : SA w S k a0) :
    SA w S (snoc f n k) (some ⟨g, 0, none⟩) := by
  refine SA_mk hS fun i hi => ?_
  rw [len_snoc] at hi
  have hcell : w.cell? ⟨g, 0 + i, none⟩ = (olds ++ [.slice a0 (len k) c0])[i]? := by
    rw [← hcur, List.getElem?_take_of_lt hi]
    simp [World.cell?, hg]
  rw [hcell, kid_snoc]
  by_cases h : i < len f
  · obtain ⟨a', cap, h1, h2⟩ := hk i h
    exact ⟨a', cap, by rw [List.getElem?_append_left (by omega), h1, if_pos h], by rw [if_pos h]; exact h2⟩
  · have e : i = len f := by omega
    exact ⟨a0, c0, by rw [List.getElem?_append_right (by omega), if_neg h, if_pos e]; simp [hl, e], by rw [if_neg h, if_pos e]; exact h0⟩

theorem Tryd.info32 : (Tryd.prog.info? 32).map (fun i => (i.zero, i.size, i.bytes)) = some (some (.agg #[.slice none 0 0]), 1, 24) := by kernel_rfl

set_option maxRecDepth 100000 in
set_option maxHeartbeats 2000000 in
theorem l71Deep_any (rb p : Nat) (w : World) (hp : p ≤ 50000) (hR : Rd w rb p) :
    Calls Tryd.prog 32 #[.pointer (some ⟨rb, 0, none⟩)] w fun e w' => ∃ (f : F) (a : Option Addr) (cap q : Nat), e = .returned (.agg #[.slice a (len f) cap]) ∧ TA w' w.heap.size f a ∧ (len f ≤ 1000000000 ∧ Sm f) ∧ dep f ≤ 20 ∧ p ≤ q ∧ q ≤ p + 100 ∧ Rd w' rb q ∧ Fr rb w w' := by
  have hrb := hR.blk
  have R : Hid (Rd w rb p) := hR
  clear hR
  obtain ⟨i0, hi, hz0, hz1, hz2⟩ := info_parts Tryd.info32
  go_enter Tryd.func32, Tryd.ntmps32
  go_wp2_with fail
  refine (pick_any rb p 4 _ (by omega) (by omega) (by omega) (R.out.ex (Ex.new _ _))).mono ?_
  rintro e w1 ⟨x, rfl, hx0, hx3, hR1, hF1⟩
  have z1 : w.heap.size < w1.heap.size := by have := hF1.size; rw [World.size_alloc] at this; omega
  have hres1 : w1.heap[w.heap.size]? = some (.cells #[.slice none 0 0] 32 (0, 0)) := hF1.blk (by omega) (heap_alloc_new _ _)
  have F1 : Hid (Fr rb w w1) := Fr.trans (Fr.of_ex (Ex.new _ _) _) hF1
  clear hF1
  go_wp2_with fail
  refine (l71Type_any x.toNat (1 + x) rb (p + 1) _ (by omega) (by omega) (by have : x.toNat = 0 ∨ x.toNat = 1 ∨ x.toNat = 2 ∨ x.toNat = 3 := by omega
                                                                             rcases this with h | h | h | h <;> rw [h] <;> simp only [tk] <;> omega) hR1).mono ?_
  rintro e w2 ⟨f, a, q0, rfl, ht, hnil, hf, hq0, hq1, hR2, hF2⟩
  have hq2 : q0 ≤ p + 8 := by
    have : x.toNat = 0 ∨ x.toNat = 1 ∨ x.toNat = 2 ∨ x.toNat = 3 := by omega
    rcases this with h | h | h | h <;> rw [h] at hq1 <;> simp only [tk] at hq1 <;> omega
  have F2 : Hid (Fr rb w w2) := F1.out.trans hF2
  have hres2 := hF2.blk (by omega) hres1
  have z2 := hF2.size
  have T : Hid (TA w2 w1.heap.size f a) := ht
  have NL : Hid (len f = 0 → a = none) := hnil
  have SM : Hid (len f ≤ 2 ∧ Sm f) := fits_sm _ _ hf
  have DP : Hid (dep f ≤ 3 + 0) := by show _ ≤ _; have := fits_dep _ _ hf; omega
  clear ht hnil hf hq1 hF2 hR1
  go_wp2_with fail
  refine (pick_any rb q0 12 _ (by omega) (by omega) (by omega) (hR2.ex (Ex.new _ _))).mono ?_
  rintro e w3 ⟨y, rfl, hy0, hy3, hR3, hF3⟩
  have z3 : w2.heap.size < w3.heap.size := by have := hF3.size; rw [World.size_alloc] at this; omega
  have F3 : Hid (Fr rb w w3) := F2.out.trans (Fr.trans (Fr.of_ex (Ex.new _ _) _) hF3)
  have hrb2 : rb < w2.heap.size := by omega
  have hb3 : w3.heap[w2.heap.size]? = some (.cells #[.slice a (len f) (len f)] 32 (0, 0)) := hF3.blk (by omega) (heap_alloc_new _ _)
  have hres3 := hF3.blk (n := w.heap.size) (by omega) ((Ex.new _ _).blk hres2)
  have T3 : Hid (SA w3 (fun b => w.heap.size < b ∧ b ≠ w2.heap.size) f a) :=
    SA_ks (SA_ks (SA_mono (S' := fun b => w.heap.size < b ∧ b ≠ w2.heap.size) T.out fun b hb h => ⟨by omega, by omega⟩) (fun k _ hlt => (Ex.new w2 _).block k hlt)) fun k hk hlt => hF3.block k hlt (by omega)
  have R3 : Hid (Rd w3 rb (q0 + 1)) := hR3
  clear hres1 hres2 hR2 hR3 hF3
  generalize ht3 : w2.heap.size = t3 at *
  clear ht3
  have FIN : Hid (∀ (wf : World) (g : F) (a' : Option Addr) (v : Value), SA wf (fun b => w.heap.size < b ∧ b ≠ t3) g a' → Rd wf rb (q0 + 1) → Fr rb w wf →
      TA (wf.setCell ⟨w.heap.size, 0, none⟩ v) w.heap.size g a' ∧ Rd (wf.setCell ⟨w.heap.size, 0, none⟩ v) rb (q0 + 1) ∧ Fr rb w (wf.setCell ⟨w.heap.size, 0, none⟩ v)) := by
    intro wf g a' v h1 h2 h3
    refine ⟨SA_mono (SA_ks h1 fun k hk _ => Below.heap_setCell _ _ _ _ (by show k ≠ w.heap.size; omega)) fun b _ hb => by omega, h2.set (by show rb < w.heap.size; omega) _, h3.set (Or.inr (Nat.le_refl _)) _⟩
  have c1 := cell_of_one hb3
  have c2 := free_of_one hb3
  have c3 := cell_of_one hres3
  have c4 := free_of_one hres3
  by_cases hy : y = 0
  · subst hy
    clear hx3
    go_wp2_with fail
    go_loopw [4] (fun i wr => ∃ (k : Nat) (g : F) (a' : Option Addr) (c' : Nat), k ≤ 5 ∧ i = .int .i64 k ∧ SA wr (fun b => w.heap.size < b ∧ b ≠ t3) g a' ∧ (len g ≤ 1000000000 ∧ Sm g) ∧ dep g ≤ 3 + k ∧ Rd wr rb (q0 + 1) ∧ Fr rb w wr ∧ wr.heap[t3]? = some (.cells #[.slice a' (len g) c'] 32 (0, 0)) ∧ wr.heap[w.heap.size]? = some (.cells #[.slice none 0 0] 32 (0, 0))) (fun i _ => 5 - (intOf i).toNat)
    case atStart => exact ⟨0, f, a, len f, by omega, rfl, T3.out, ⟨by have := SM.out; omega, SM.out.2⟩, DP.out, R3.out, F3.out, hb3, hres3⟩
    case round =>
      obtain ⟨k, g, a', c', hk, rfl, hg, hsm, hdg, hrd, hfr, ht3c, hrsc⟩ := hrel
      have G : Hid (SA wr (fun b => w.heap.size < b ∧ b ≠ t3) g a') := hg
      have SG : Hid (len g ≤ 1000000000 ∧ Sm g) := hsm
      clear hg hsm c1 c2 c3 c4
      have c1 := cell_of_one ht3c
      have c2 := free_of_one ht3c
      have c3 := cell_of_one hrsc
      have c4 := free_of_one hrsc
      have c5 := lt_of_block ht3c
      by_cases hlt : k < 5
      · go_wp2_with fail
        go_roundw
        case rel =>
          have hks : Ks (fun b => w.heap.size < b ∧ b ≠ t3) wr ((wr.setCell ⟨t3, 0, none⟩ (.slice (some ⟨wr.heap.size, 0, none⟩) 2 2)).alloc (.cells #[.slice a' (len g) c', .slice none 0 0] 32)) := fun b hb hlt => by
            rw [Below.heap_alloc _ _ _ (by rw [World.size_setCell]; exact hlt), Below.heap_setCell _ _ _ _ hb.2]
          refine ⟨k + 1, two 0 g 0 .nil, some ⟨wr.heap.size, 0, none⟩, 2, by omega, by go_num, SA_two (k0 := c') (k1 := 0) (a1 := none) rfl ⟨by omega, by omega⟩ ?_ ?_ (SA_ks G.out hks) (Or.inl rfl), Sm_two 0 0 SG.out ⟨by simp [len], trivial⟩, by simp only [two, dep]; omega, (hrd.set (by show rb < t3; omega) _).ex (Ex.new _ _), (hfr.set (Or.inr (by show w.heap.size ≤ t3; omega)) _).alloc _, ?_, ?_⟩
          · rw [cell_set_new]; rfl
          · rw [cell_set_new]; rfl
          · exact (Ex.new _ _).blk (one_setCell ht3c)
          · exact (Ex.new _ _).blk ((Below.heap_setCell _ _ _ _ (by show w.heap.size ≠ t3; omega)).trans hrsc)
        case measure => simp [intOf]; omega
      · go_wp2_with fail
        have hres := World.cell?_setCell_same wr ⟨w.heap.size, 0, none⟩ (.slice a' (len g) c') c3
        have hfin := FIN.out wr g a' (.slice a' (len g) c') G.out hrd hfr
        exact bodyPost_ret (v := .agg #[.slice a' (len g) c']) (by simp [results, Tryd.results32, go_sem, hres]) rfl ⟨g, a', c', q0 + 1, rfl, hfin.1, SG.out, by omega, by omega, by omega, hfin.2.1, hfin.2.2⟩
  · by_cases hy1 : y = 1
    · subst hy1
      obtain ⟨olds, ho1, ho2, ho3⟩ := SA_olds T3.out
      have O3 : Hid _ := ho3
      have hl := SM.out.1
      clear ho3
      go_wp2_with (at_builtin; refine wpList_append_grows _ rfl (.tmp 25) (.tmp 27) 24 rfl 32 i0 (.agg #[.slice none 0 0]) 1 24 Tryd.underlying24 hi hz0 hz1 hz2 rfl (by decide) a (len f) (len f) olds rfl ?hnone ?hlo ?holds ⟨w3.heap.size, 0, none⟩ 1 1 [.slice none 0 0] rfl rfl ?c1 ?c2 (by omega) (by unfold maxLen; omega) (by omega) ?grow)
      case hnone =>
        intro h
        by_cases h0 : len f = 0
        · exact ⟨h0, h0⟩
        · obtain ⟨b, o, e, _⟩ := SA_at T3.out (by omega)
          rw [h] at e; cases e
      case hlo => rw [ho1]; omega
      case holds => intro b hb j u hu; exact (Ex.new _ _).at (ho2 b hb j u hu)
      case c1 => intro j u hj; match j, hj with | 0, hj => simp at hj; subst hj; simp [Addr.add]
      case c2 => intro u hu; simp at hu; subst hu; rfl
      case grow =>
        intro v' w4 hown hgrow
        obtain ⟨_, h | ⟨g, cap, cur, rfl, hg, hgc, hcap, _, hcs, htake⟩⟩ := hown
        · omega
        have hx4 : Ex w3 w4 := (Ex.new _ _).trans ⟨hgrow.os, hgrow.tape, hgrow.output, hgrow.size, fun k hk => hgrow.block k hk (by simp)⟩
        have hb4 := hx4.blk hb3
        have hres4 := hx4.blk hres3
        have G4 : Hid (w4.heap[g]? = some (.cells cur 32 (0, 0))) := hgc
        have TK : Hid _ := htake
        clear hgrow hgc htake c1 c2 c3 c4 hb3 hres3 hcap hcs
        have c1 := cell_of_one hb4
        have c2 := free_of_one hb4
        have c3 := cell_of_one hres4
        have c4 := free_of_one hres4
        go_wp2_with fail
        have c6 : (w4.setCell ⟨t3, 0, none⟩ (.slice (some ⟨g, 0, none⟩) (len f + 1) cap)).cell? ⟨w.heap.size, 0, none⟩ = some (.slice none 0 0) := by
          rw [World.cell?_setCell_other _ _ _ _ (fun e => absurd (congrArg Addr.block e) (by show t3 ≠ w.heap.size; omega))]; exact c3
        have hres := World.cell?_setCell_same (w4.setCell ⟨t3, 0, none⟩ (.slice (some ⟨g, 0, none⟩) (len f + 1) cap)) ⟨w.heap.size, 0, none⟩ (.slice (some ⟨g, 0, none⟩) (len f + 1) cap) c6
        have hks : Ks (fun b => w.heap.size < b ∧ b ≠ t3) w3 (w4.setCell ⟨t3, 0, none⟩ (.slice (some ⟨g, 0, none⟩) (len f + 1) cap)) := fun b hb hlt => by
          rw [Below.heap_setCell _ _ _ _ hb.2]; exact hx4.block b hlt
        have hg4 : SA (w4.setCell ⟨t3, 0, none⟩ (.slice (some ⟨g, 0, none⟩) (len f + 1) cap)) (fun b => w.heap.size < b ∧ b ≠ t3) (snoc f 0 .nil) (some ⟨g, 0, none⟩) := by
          refine SA_snoc (olds := olds) (cur := cur) (e := 32) (a0 := none) (c0 := 0) ⟨by omega, by omega⟩ ?_ ?_ ho1 (fun i hi => ?_) (Or.inl rfl)
          · rw [Below.heap_setCell _ _ _ _ (by show g ≠ t3; omega)]; exact G4.out
          · have := TK.out; rw [Nat.mul_one] at this; exact this
          · obtain ⟨a', k', h1, h2⟩ := O3.out i hi
            exact ⟨a', k', h1, SA_ks h2 hks⟩
        have hfin := FIN.out _ _ _ (.slice (some ⟨g, 0, none⟩) (len f + 1) cap) hg4 ((R3.out.ex hx4).set (by show rb < t3; omega) _) ((F3.out.ex hx4).set (Or.inr (by show w.heap.size ≤ t3; omega)) _)
        refine bodyPost_ret (v := .agg #[.slice (some ⟨g, 0, none⟩) (len f + 1) cap]) (by simp [results, Tryd.results32, go_sem, hres]) rfl ⟨snoc f 0 .nil, _, cap, q0 + 1, by rw [len_snoc], hfin.1, ⟨by rw [len_snoc]; omega, Sm_snoc 0 SM.out.2 ⟨by simp [len], trivial⟩⟩, by have := dep_snoc f 0 .nil; have := DP.out; simp only [dep] at *; omega, by omega, by omega, hfin.2.1, hfin.2.2⟩
    · have e0 : (y == 0) = false := by simp; omega
      have e1 : (y == 1) = false := by simp; omega
      go_wp2_with fail
      have hres := World.cell?_setCell_same w3 ⟨w.heap.size, 0, none⟩ (.slice a (len f) (len f)) c3
      have hfin := FIN.out w3 f a (.slice a (len f) (len f)) T3.out R3.out F3.out
      exact bodyPost_ret (v := .agg #[.slice a (len f) (len f)]) (by simp [results, Tryd.results32, go_sem, hres]) rfl ⟨f, a, len f, q0 + 1, rfl, hfin.1, ⟨by have := SM.out; omega, SM.out.2⟩, by have := DP.out; omega, by omega, by omega, hfin.2.1, hfin.2.2⟩

end Go.Proofs.YthdihpcpobhadaaDoor
