/- Walks: codes opened, types drawn. Walks: types drawn, some spoilt. Walks: two types held against each other. Walks: paths drawn. Walks: a type copied by the specification; its part by a path. -/
import Derived.Test.YtldbmlojgakieaaDoorGD1
import Derived.Deep.LoopGhost
import Derived.Deep.RegionLaw
namespace Go.Proofs.YtldbmlojgakieaaDoor

open Go.RowKit Go.Deep

attribute [local go_sem ↓] Go.wp_at_zero Go.wp_at_succ

/-- Bytes lie behind a slice's address. -/
def By (w : World) (n : Nat) (ca : Option Addr) : Prop := n = 0 ∨ ∃ cb co, ca = some ⟨cb, co, none⟩ ∧ ∀ i, i < n → ∃ x : Int, w.cell? ⟨cb, co + i, none⟩ = some (.int .u8 x) ∧ 0 ≤ x ∧ x ≤ 255

theorem By.ex {w w' : World} {n : Nat} {ca : Option Addr} (h : By w n ca) (hx : Ex w w') : By w' n ca := by
  rcases h with h | ⟨cb, co, e, hc⟩
  · exact Or.inl h
  · exact Or.inr ⟨cb, co, e, fun i hi => by obtain ⟨x, h1, h2⟩ := hc i hi; exact ⟨x, hx.at h1, h2⟩⟩

theorem Rd.start {w : World} {n : Nat} {ca : Option Addr} {cc : Nat} (h : By w n ca) (hn : n ≤ 2000) : Rd (w.alloc (.cells #[.slice ca n cc, .int .i64 0] 59)) w.heap.size 0 := by
  refine ⟨ca, n, cc, heap_alloc_new _ _, hn, ?_⟩
  rcases h with h | ⟨cb, co, e, hc⟩
  · exact Or.inl h
  · by_cases h0 : n = 0
    · exact Or.inl h0
    · refine Or.inr ⟨cb, co, e, ?_, fun i hi => by obtain ⟨x, h1, h2⟩ := hc i hi; exact ⟨x, (Ex.new _ _).at h1, h2⟩⟩
      obtain ⟨x, h1, _⟩ := hc 0 (by omega)
      have : cb < w.heap.size := World.block_lt_of_cell? _ _ h1
      omega

theorem Rd.set {w : World} {rb p : Nat} (h : Rd w rb p) {q : Addr} (hq : rb < q.block) (v : Value) : Rd (w.setCell q v) rb p := by
  obtain ⟨ca, n, cc, h1, h2, h3⟩ := h
  refine ⟨ca, n, cc, by rw [Below.heap_setCell _ _ _ _ (by omega)]; exact h1, h2, ?_⟩
  rcases h3 with h3 | ⟨cb, co, h4, h5, h6⟩
  · exact Or.inl h3
  · refine Or.inr ⟨cb, co, h4, h5, fun i hi => ?_⟩
    obtain ⟨x, hc, hx0⟩ := h6 i hi
    exact ⟨x, by rw [World.cell?_setCell_other _ _ _ _ (fun e => absurd (congrArg Addr.block e) (by show q.block ≠ cb; omega))]; exact hc, hx0⟩

theorem l6Open_any (n cc : Nat) (ca : Option Addr) (w : World) (hn : n ≤ cc) (hc : cc ≤ 9223372036854775807) (hB : By w n ca) :
    Calls Tryd.prog 8 #[.slice ca n cc] w fun e w' => e = .returned (.pointer (some ⟨w.heap.size, 0, none⟩)) ∧ Rd w' w.heap.size 0 ∧ Ex w w' := by
  have B : Hid (By w n ca) := hB
  clear hB
  by_cases h : n ≤ 2000
  · go_enter Tryd.func8, Tryd.ntmps8
    go_wp2_with fail
    go_ret
    exact ⟨rfl, Rd.start B.out h, Ex.new _ _⟩
  · have h0 : (2000 : Int) ≤ (cc : Int) := by omega
    obtain ⟨cb, co, rfl, hcc⟩ : ∃ cb co, ca = some ⟨cb, co, none⟩ ∧ ∀ i, i < n → ∃ x : Int, w.cell? ⟨cb, co + i, none⟩ = some (.int .u8 x) ∧ 0 ≤ x ∧ x ≤ 255 := by
      rcases B.out with h | h
      · omega
      · exact h
    have B2 : Hid (By w 2000 (some ⟨cb, co, none⟩)) := Or.inr ⟨cb, co, rfl, fun i hi => hcc i (by omega)⟩
    clear hcc B
    go_enter Tryd.func8, Tryd.ntmps8
    go_wp2_with fail
    go_ret
    exact ⟨rfl, Rd.start B2.out (Nat.le_refl _), Ex.new _ _⟩

theorem Rd.blk {w : World} {rb p : Nat} (h : Rd w rb p) : rb < w.heap.size := by
  obtain ⟨_, _, _, h1, _⟩ := h
  exact lt_of_block h1

/-- How many bytes are read at most. -/
def tk : Nat → Nat
  | 0 => 0
  | d + 1 => 2 * tk d + 1

set_option maxHeartbeats 1000000 in
theorem l71Type_any : ∀ (d : Nat) (D : Int) (rb p : Nat) (w : World), D = ((d + 1 : Nat) : Int) → d ≤ 8 → p + tk d ≤ 100000 → Rd w rb p →
    Calls Tryd.prog 9 #[.pointer (some ⟨rb, 0, none⟩), .int .i64 D] w fun e w' => ∃ (f : F) (a : Option Addr) (q : Nat), e = .returned (.agg #[.slice a (len f) (len f)]) ∧ TA w' w.heap.size f a ∧ (len f = 0 → a = none) ∧ fits (d + 1) f = true ∧ p ≤ q ∧ q ≤ p + tk d ∧ Rd w' rb q ∧ Fr rb w w'
  | 0, D, rb, p, w, hD, hd, hp, hR => by
    subst hD
    go_enter Tryd.func9, Tryd.ntmps9
    go_wp2_with fail
    exact bodyPost_ret (v := .agg #[.slice none 0 0]) (by simp [results, Tryd.results9, go_sem]) rfl ⟨.nil, none, p, rfl, Or.inl rfl, fun _ => rfl, rfl, Nat.le_refl _, by omega, hR.ex (Ex.new _ _), Fr.of_ex (Ex.new _ _) _⟩
  | d + 1, D, rb, p, w, hD, hd, hp, hR => by
    have R : Hid (Rd w rb p) := hR
    have I : Hid _ := l71Type_any d
    have HD : Hid (D = ((d + 1 + 1 : Nat) : Int)) := hD
    have e1 : decide (D < 2) = false := by simp; omega
    have hD1 : 2 ≤ D := by omega
    have hD2 : D ≤ 100 := by omega
    have hrb := hR.blk
    simp only [tk] at hp
    clear hR hD
    go_enter Tryd.func9, Tryd.ntmps9
    go_wp2_with fail
    refine (pick_any rb p 3 _ (by omega) (by omega) (by omega) (R.out.ex (Ex.new _ _))).mono ?_
    rintro e w1 ⟨x, rfl, hx0, hx3, hR1, hF1⟩
    have hres1 : w1.heap[w.heap.size]? = some (.cells #[.slice none 0 0] 32 (0, 0)) := hF1.blk (by omega) (heap_alloc_new _ _)
    have R1 : Hid (Rd w1 rb (p + 1)) := hR1
    have F1 : Hid (Fr rb w w1) := Fr.trans (Fr.of_ex (Ex.new _ _) _) hF1
    have c1 := cell_of_one hres1
    have c2 := free_of_one hres1
    have c3 := lt_of_block hres1
    clear hR1 hF1
    by_cases hx : 0 < x
    · go_wp2_with fail
      have hres := World.cell?_setCell_same w1 ⟨w.heap.size, 0, none⟩ (.slice none 0 0) c1
      refine bodyPost_ret (v := .agg #[.slice none 0 0]) (by simp [results, Tryd.results9, go_sem, hres]) rfl ⟨.nil, none, p + 1, rfl, Or.inl rfl, fun _ => rfl, rfl, by omega, by simp only [tk]; omega, ?_, Fr.set F1.out (Or.inr (Nat.le_refl _)) _⟩
      exact R1.out.set (by show rb < w.heap.size; omega) _
    · have e3 : decide (0 < x) = false := by simp; omega
      go_wp2_with fail
      refine (I.out (D - 1) rb (p + 1) _ (by have := HD.out; omega) (by omega) (by omega) R1.out).mono ?_
      rintro e w2 ⟨f0, a0, q0, rfl, ht0, hn0, hf0, hq0, hq0', hR2, hF2⟩
      have F2 : Hid (Fr rb w1 w2) := hF2
      have N0 : Hid (len f0 = 0 → a0 = none) := hn0
      have T0 : Hid (TA w2 w1.heap.size f0 a0) := ht0
      have FF0 : Hid (fits (d + 1) f0 = true) := hf0
      clear ht0 hn0 hf0 hF2
      go_wp2_with fail
      refine (I.out (D - 1) rb q0 _ (by have := HD.out; omega) (by omega) (by omega) hR2).mono ?_
      rintro e w3 ⟨f1, a1, q1, rfl, ht1, hn1, hf1, hq1, hq1', hR3, hF3⟩
      have F3 : Hid (Fr rb w2 w3) := hF3
      have T1 : Hid (TA w3 w2.heap.size f1 a1) := ht1
      have FF1 : Hid (fits (d + 1) f1 = true) := hf1
      have R3 : Hid (Rd w3 rb q1) := hR3
      have hres3 := hF3.blk (by omega) (F2.out.blk (by omega) hres1)
      clear ht1 hn1 hf1 hF3 hR2 hR3 c1 c2 c3
      have c1 := cell_of_one hres3
      have c2 := free_of_one hres3
      have c3 := lt_of_block hres3
      go_wp2_with fail
      have hres := res_at c1 (.slice (some ⟨w3.heap.size, 0, none⟩) 2 2) (.cells #[.slice a0 (len f0) (len f0), .slice a1 (len f1) (len f1)] 32)
      have z1 : w.heap.size < w1.heap.size := lt_of_block hres1
      have z2 := F2.out.size
      have t0 : TA ((w3.setCell ⟨w.heap.size, 0, none⟩ (.slice (some ⟨w3.heap.size, 0, none⟩) 2 2)).alloc (.cells #[.slice a0 (len f0) (len f0), .slice a1 (len f1) (len f1)] 32)) w.heap.size f0 a0 := TA_lo (TA_kp T0.out (((F3.out.kp (by omega)).set (Or.inl (by show w.heap.size < _; omega)) _).alloc _)) (by omega)
      have t1 : TA ((w3.setCell ⟨w.heap.size, 0, none⟩ (.slice (some ⟨w3.heap.size, 0, none⟩) 2 2)).alloc (.cells #[.slice a0 (len f0) (len f0), .slice a1 (len f1) (len f1)] 32)) w.heap.size f1 a1 := TA_lo (TA_kp T1.out (((Kp.refl _ _).set (Or.inl (by show w.heap.size < _; omega)) _).alloc _)) (by omega)
      refine bodyPost_ret (v := .agg #[.slice (some ⟨w3.heap.size, 0, none⟩) 2 2]) (by simp [results, Tryd.results9, go_sem, hres]) rfl ⟨two 0 f0 0 f1, _, q1, rfl, TA_two (k0 := len f0) (k1 := len f1) rfl ?_ ?_ ?_ t0 t1, (fun h => by cases h), ?_, by omega, by simp only [tk]; omega, ?_, ?_⟩
      · omega
      · rw [cell_set_new]; rfl
      · rw [cell_set_new]; rfl
      · rw [fits_two rfl]; show (fits (d + 1) f0 && fits (d + 1) f1) = true; rw [FF0.out, FF1.out]; rfl
      · exact (R3.out.set (by show rb < w.heap.size; omega) _).ex (Ex.new _ _)
      · exact ((F1.out.trans (F2.out.trans F3.out)).set (Or.inr (Nat.le_refl _)) _).alloc _

end Go.Proofs.YtldbmlojgakieaaDoor

namespace Go.Proofs.YtldbmlojgakieaaDoor

open Go.RowKit Go.Deep

open Go.WideShapes (add_plain)

attribute [local go_sem ↓] Go.wp_at_zero Go.wp_at_succ

theorem fits_sm : ∀ (r : Nat) (f : F), fits r f = true → len f ≤ 2 ∧ Sm f
  | 0, f, h => by simp [fits] at h
  | r + 1, .nil, _ => ⟨by simp [len], trivial⟩
  | r + 1, .node b o n k (.nil), h => by simp [fits, len] at h
  | r + 1, .node b o n k (.node b' o' n' k' .nil), h => by
    simp [fits, len, kid] at h
    have h1 := fits_sm r k h.1
    have h2 := fits_sm r k' h.2
    exact ⟨by simp [len], ⟨by omega, h1.2, ⟨by omega, h2.2, trivial⟩⟩⟩
  | r + 1, .node b o n k (.node b' o' n' k' (.node _ _ _ _ _)), h => by simp [fits, len] at h

theorem fits_dep : ∀ (r : Nat) (f : F), fits r f = true → dep f < r
  | 0, f, h => by simp [fits] at h
  | r + 1, .nil, _ => by simp [dep]
  | r + 1, .node b o n k (.nil), h => by simp [fits, len] at h
  | r + 1, .node b o n k (.node b' o' n' k' .nil), h => by
    simp [fits, len, kid] at h
    have h1 := fits_dep r k h.1
    have h2 := fits_dep r k' h.2
    simp only [dep]; omega
  | r + 1, .node b o n k (.node b' o' n' k' (.node _ _ _ _ _)), h => by simp [fits, len] at h

theorem Sm_two {a b : F} (n m : Int) (ha : len a ≤ 1000000000 ∧ Sm a) (hb : len b ≤ 1000000000 ∧ Sm b) : len (two n a m b) ≤ 1000000000 ∧ Sm (two n a m b) :=
  ⟨by rw [len_two]; omega, ⟨ha.1, ha.2, ⟨hb.1, hb.2, trivial⟩⟩⟩

/-- One more behind. -/
def snoc : F → Int → F → F
  | .nil, n, k => .node 0 0 n k .nil
  | .node b o m k' r, n, k => .node b o m k' (snoc r n k)
theorem len_snoc : ∀ (f : F) (n : Int) (k : F), len (snoc f n k) = len f + 1
  | .nil, _, _ => rfl
  | .node _ _ _ _ r, n, k => by simp [snoc, len, len_snoc r n k]
theorem kid_snoc : ∀ (f : F) (n : Int) (k : F) (i : Nat), kid (snoc f n k) i = if i < len f then kid f i else if i = len f then k else .nil
  | .nil, n, k, 0 => by simp [snoc, kid, len]
  | .nil, n, k, i + 1 => by simp [snoc, kid, len]
  | .node _ _ _ _ r, n, k, 0 => by simp [snoc, kid, len]
  | .node _ _ _ _ r, n, k, i + 1 => by simp [snoc, kid, len, kid_snoc r n k i]
theorem dep_snoc : ∀ (f : F) (n : Int) (k : F), dep (snoc f n k) = max (dep f) (dep k + 1)
  | .nil, _, _ => by simp [snoc, dep]
  | .node _ _ _ k' r, n, k => by simp only [snoc, dep, dep_snoc r n k]; omega
theorem Sm_snoc : ∀ {f : F} (n : Int) {k : F}, Sm f → len k ≤ 1000000000 ∧ Sm k → Sm (snoc f n k)
  | .nil, _, _, _, hk => ⟨hk.1, hk.2, trivial⟩
  | .node _ _ _ _ _, n, _, hf, hk => ⟨hf.1, hf.2.1, Sm_snoc n hf.2.2 hk⟩

/-- The cells of a list of types. -/
theorem SA_olds {w : World} {S : Nat → Prop} {f : F} {a : Option Addr} (h : SA w S f a) : ∃ olds : List Value, olds.length = len f ∧ (∀ b, a = some b → ∀ j u, olds[j]? = some u → w.cell? (b.add j) = some u) ∧
    ∀ i, i < len f → ∃ a' cap, olds[i]? = some (.slice a' (len (kid f i)) cap) ∧ SA w S (kid f i) a' := by
  by_cases h0 : len f = 0
  · exact ⟨[], by simp [h0], by intro _ _ j u hu; simp at hu, fun i hi => by omega⟩
  · obtain ⟨b, o, rfl, _, _, hk⟩ := SA_at h (by omega)
    refine ⟨(List.range (len f)).map fun i => (w.cell? ⟨b, o + i, none⟩).getD default, by simp, ?_, ?_⟩
    · intro b' hb' j u hu
      cases hb'
      rw [List.getElem?_map] at hu
      by_cases hj : j < len f
      · rw [List.getElem?_range hj] at hu
        obtain ⟨a', cap, hc, _⟩ := hk j hj
        simp [hc] at hu
        subst hu
        rw [add_plain]; exact hc
      · rw [List.getElem?_eq_none (by simpa using hj)] at hu; simp at hu
    · intro i hi
      obtain ⟨a', cap, hc, ht⟩ := hk i hi
      exact ⟨a', cap, by rw [List.getElem?_map, List.getElem?_range hi]; simp [hc], ht⟩

theorem SA_snoc {w : World} {S : Nat → Prop} {f k : F} {n : Int} {olds : List Value} {g : Nat} {cur : Array Value} {e : TypeId} {a0 : Option Addr} {c0 : Nat} (hS : S g) (hg : w.heap[g]? = some (.cells cur e (0, 0)))
    (hcur : cur.toList.take (len f + 1) = olds ++ [.slice a0 (len k) c0]) (hl : olds.length = len f) (hk : ∀ i, i < len f → ∃ a' cap, olds[i]? = some (.slice a' (len (kid f i)) cap) ∧ SA w S (kid f i) a') (h0 : SA w S k a0) :
    SA w S (snoc f n k) (some ⟨g, 0, none⟩) := by
  refine SA_mk hS fun i hi => ?_
  rw [len_snoc] at hi
  have hcell : w.cell? ⟨g, 0 + i, none⟩ = (olds ++ [.slice a0 (len k) c0])[i]? := by
    rw [← hcur, List.getElem?_take_of_lt hi]
    simp [World.cell?, hg]
  rw [hcell, kid_snoc]
  by_cases h : i < len f
  · obtain ⟨a', cap, h1, h2⟩ := hk i h
    exact ⟨a', cap, by rw [List.getElem?_append_left (by omega), h1, if_pos h], by rw [if_pos h]; exact h2⟩
  · have e : i = len f := by omega
    exact ⟨a0, c0, by rw [List.getElem?_append_right (by omega), if_neg h, if_pos e]; simp [hl, e], by rw [if_neg h, if_pos e]; exact h0⟩

theorem Tryd.info32 : (Tryd.prog.info? 32).map (fun i => (i.zero, i.size, i.bytes)) = some (some (.agg #[.slice none 0 0]), 1, 24) := by kernel_rfl

set_option maxRecDepth 100000 in
set_option maxHeartbeats 2000000 in
theorem l71Deep_any (rb p : Nat) (w : World) (hp : p ≤ 50000) (hR : Rd w rb p) :
    Calls Tryd.prog 12 #[.pointer (some ⟨rb, 0, none⟩)] w fun e w' => ∃ (f : F) (a : Option Addr) (cap q : Nat), e = .returned (.agg #[.slice a (len f) cap]) ∧ TA w' w.heap.size f a ∧ (len f ≤ 1000000000 ∧ Sm f) ∧ dep f ≤ 20 ∧ p ≤ q ∧ q ≤ p + 100 ∧ Rd w' rb q ∧ Fr rb w w' := by
  have hrb := hR.blk
  have R : Hid (Rd w rb p) := hR
  clear hR
  obtain ⟨i0, hi, hz0, hz1, hz2⟩ := info_parts Tryd.info32
  go_enter Tryd.func12, Tryd.ntmps12
  go_wp2_with fail
  refine (pick_any rb p 4 _ (by omega) (by omega) (by omega) (R.out.ex (Ex.new _ _))).mono ?_
  rintro e w1 ⟨x, rfl, hx0, hx3, hR1, hF1⟩
  have z1 : w.heap.size < w1.heap.size := by have := hF1.size; rw [World.size_alloc] at this; omega
  have hres1 : w1.heap[w.heap.size]? = some (.cells #[.slice none 0 0] 32 (0, 0)) := hF1.blk (by omega) (heap_alloc_new _ _)
  have F1 : Hid (Fr rb w w1) := Fr.trans (Fr.of_ex (Ex.new _ _) _) hF1
  clear hF1
  go_wp2_with fail
  refine (l71Type_any x.toNat (1 + x) rb (p + 1) _ (by omega) (by omega) (by have : x.toNat = 0 ∨ x.toNat = 1 ∨ x.toNat = 2 ∨ x.toNat = 3 := by omega
                                                                             rcases this with h | h | h | h <;> rw [h] <;> simp only [tk] <;> omega) hR1).mono ?_
  rintro e w2 ⟨f, a, q0, rfl, ht, hnil, hf, hq0, hq1, hR2, hF2⟩
  have hq2 : q0 ≤ p + 8 := by
    have : x.toNat = 0 ∨ x.toNat = 1 ∨ x.toNat = 2 ∨ x.toNat = 3 := by omega
    rcases this with h | h | h | h <;> rw [h] at hq1 <;> simp only [tk] at hq1 <;> omega
  have F2 : Hid (Fr rb w w2) := F1.out.trans hF2
  have hres2 := hF2.blk (by omega) hres1
  have z2 := hF2.size
  have T : Hid (TA w2 w1.heap.size f a) := ht
  have NL : Hid (len f = 0 → a = none) := hnil
  have SM : Hid (len f ≤ 2 ∧ Sm f) := fits_sm _ _ hf
  have DP : Hid (dep f ≤ 3 + 0) := by show _ ≤ _; have := fits_dep _ _ hf; omega
  clear ht hnil hf hq1 hF2 hR1
  go_wp2_with fail
  refine (pick_any rb q0 12 _ (by omega) (by omega) (by omega) (hR2.ex (Ex.new _ _))).mono ?_
  rintro e w3 ⟨y, rfl, hy0, hy3, hR3, hF3⟩
  have z3 : w2.heap.size < w3.heap.size := by have := hF3.size; rw [World.size_alloc] at this; omega
  have F3 : Hid (Fr rb w w3) := F2.out.trans (Fr.trans (Fr.of_ex (Ex.new _ _) _) hF3)
  have hrb2 : rb < w2.heap.size := by omega
  have hb3 : w3.heap[w2.heap.size]? = some (.cells #[.slice a (len f) (len f)] 32 (0, 0)) := hF3.blk (by omega) (heap_alloc_new _ _)
  have hres3 := hF3.blk (n := w.heap.size) (by omega) ((Ex.new _ _).blk hres2)
  have T3 : Hid (SA w3 (fun b => w.heap.size < b ∧ b ≠ w2.heap.size) f a) :=
    SA_ks (SA_ks (SA_mono (S' := fun b => w.heap.size < b ∧ b ≠ w2.heap.size) T.out fun b hb h => ⟨by omega, by omega⟩) (fun k _ hlt => (Ex.new w2 _).block k hlt)) fun k hk hlt => hF3.block k hlt (by omega)
  have R3 : Hid (Rd w3 rb (q0 + 1)) := hR3
  clear hres1 hres2 hR2 hR3 hF3
  generalize ht3 : w2.heap.size = t3 at *
  clear ht3
  have FIN : Hid (∀ (wf : World) (g : F) (a' : Option Addr) (v : Value), SA wf (fun b => w.heap.size < b ∧ b ≠ t3) g a' → Rd wf rb (q0 + 1) → Fr rb w wf →
      TA (wf.setCell ⟨w.heap.size, 0, none⟩ v) w.heap.size g a' ∧ Rd (wf.setCell ⟨w.heap.size, 0, none⟩ v) rb (q0 + 1) ∧ Fr rb w (wf.setCell ⟨w.heap.size, 0, none⟩ v)) := by
    intro wf g a' v h1 h2 h3
    refine ⟨SA_mono (SA_ks h1 fun k hk _ => Below.heap_setCell _ _ _ _ (by show k ≠ w.heap.size; omega)) fun b _ hb => by omega, h2.set (by show rb < w.heap.size; omega) _, h3.set (Or.inr (Nat.le_refl _)) _⟩
  have c1 := cell_of_one hb3
  have c2 := free_of_one hb3
  have c3 := cell_of_one hres3
  have c4 := free_of_one hres3
  by_cases hy : y = 0
  · subst hy
    clear hx3
    go_wp2_with fail
    go_loopw [4] (fun i wr => ∃ (k : Nat) (g : F) (a' : Option Addr) (c' : Nat), k ≤ 5 ∧ i = .int .i64 k ∧ SA wr (fun b => w.heap.size < b ∧ b ≠ t3) g a' ∧ (len g ≤ 1000000000 ∧ Sm g) ∧ dep g ≤ 3 + k ∧ Rd wr rb (q0 + 1) ∧ Fr rb w wr ∧ wr.heap[t3]? = some (.cells #[.slice a' (len g) c'] 32 (0, 0)) ∧ wr.heap[w.heap.size]? = some (.cells #[.slice none 0 0] 32 (0, 0))) (fun i _ => 5 - (intOf i).toNat)
    case atStart => exact ⟨0, f, a, len f, by omega, rfl, T3.out, ⟨by have := SM.out; omega, SM.out.2⟩, DP.out, R3.out, F3.out, hb3, hres3⟩
    case round =>
      obtain ⟨k, g, a', c', hk, rfl, hg, hsm, hdg, hrd, hfr, ht3c, hrsc⟩ := hrel
      have G : Hid (SA wr (fun b => w.heap.size < b ∧ b ≠ t3) g a') := hg
      have SG : Hid (len g ≤ 1000000000 ∧ Sm g) := hsm
      clear hg hsm c1 c2 c3 c4
      have c1 := cell_of_one ht3c
      have c2 := free_of_one ht3c
      have c3 := cell_of_one hrsc
      have c4 := free_of_one hrsc
      have c5 := lt_of_block ht3c
      by_cases hlt : k < 5
      · go_wp2_with fail
        go_roundw
        case rel =>
          have hks : Ks (fun b => w.heap.size < b ∧ b ≠ t3) wr ((wr.setCell ⟨t3, 0, none⟩ (.slice (some ⟨wr.heap.size, 0, none⟩) 2 2)).alloc (.cells #[.slice a' (len g) c', .slice none 0 0] 32)) := fun b hb hlt => by
            rw [Below.heap_alloc _ _ _ (by rw [World.size_setCell]; exact hlt), Below.heap_setCell _ _ _ _ hb.2]
          refine ⟨k + 1, two 0 g 0 .nil, some ⟨wr.heap.size, 0, none⟩, 2, by omega, by go_num, SA_two (k0 := c') (k1 := 0) (a1 := none) rfl ⟨by omega, by omega⟩ ?_ ?_ (SA_ks G.out hks) (Or.inl rfl), Sm_two 0 0 SG.out ⟨by simp [len], trivial⟩, by simp only [two, dep]; omega, (hrd.set (by show rb < t3; omega) _).ex (Ex.new _ _), (hfr.set (Or.inr (by show w.heap.size ≤ t3; omega)) _).alloc _, ?_, ?_⟩
          · rw [cell_set_new]; rfl
          · rw [cell_set_new]; rfl
          · exact (Ex.new _ _).blk (one_setCell ht3c)
          · exact (Ex.new _ _).blk ((Below.heap_setCell _ _ _ _ (by show w.heap.size ≠ t3; omega)).trans hrsc)
        case measure => simp [intOf]; omega
      · go_wp2_with fail
        have hres := World.cell?_setCell_same wr ⟨w.heap.size, 0, none⟩ (.slice a' (len g) c') c3
        have hfin := FIN.out wr g a' (.slice a' (len g) c') G.out hrd hfr
        exact bodyPost_ret (v := .agg #[.slice a' (len g) c']) (by simp [results, Tryd.results12, go_sem, hres]) rfl ⟨g, a', c', q0 + 1, rfl, hfin.1, SG.out, by omega, by omega, by omega, hfin.2.1, hfin.2.2⟩
  · by_cases hy1 : y = 1
    · subst hy1
      obtain ⟨olds, ho1, ho2, ho3⟩ := SA_olds T3.out
      have O3 : Hid _ := ho3
      have hl := SM.out.1
      clear ho3
      go_wp2_with (at_builtin; refine wpList_append_grows _ rfl (.tmp 25) (.tmp 27) 24 rfl 32 i0 (.agg #[.slice none 0 0]) 1 24 Tryd.underlying24 hi hz0 hz1 hz2 rfl (by decide) a (len f) (len f) olds rfl ?hnone ?hlo ?holds ⟨w3.heap.size, 0, none⟩ 1 1 [.slice none 0 0] rfl rfl ?c1 ?c2 (by omega) (by unfold maxLen; omega) (by omega) ?grow)
      case hnone =>
        intro h
        by_cases h0 : len f = 0
        · exact ⟨h0, h0⟩
        · obtain ⟨b, o, e, _⟩ := SA_at T3.out (by omega)
          rw [h] at e; cases e
      case hlo => rw [ho1]; omega
      case holds => intro b hb j u hu; exact (Ex.new _ _).at (ho2 b hb j u hu)
      case c1 => intro j u hj; match j, hj with | 0, hj => simp at hj; subst hj; simp [Addr.add]
      case c2 => intro u hu; simp at hu; subst hu; rfl
      case grow =>
        intro v' w4 hown hgrow
        obtain ⟨_, h | ⟨g, cap, cur, rfl, hg, hgc, hcap, _, hcs, htake⟩⟩ := hown
        · omega
        have hx4 : Ex w3 w4 := (Ex.new _ _).trans ⟨hgrow.os, hgrow.tape, hgrow.output, hgrow.size, fun k hk => hgrow.block k hk (by simp)⟩
        have hb4 := hx4.blk hb3
        have hres4 := hx4.blk hres3
        have G4 : Hid (w4.heap[g]? = some (.cells cur 32 (0, 0))) := hgc
        have TK : Hid _ := htake
        clear hgrow hgc htake c1 c2 c3 c4 hb3 hres3 hcap hcs
        have c1 := cell_of_one hb4
        have c2 := free_of_one hb4
        have c3 := cell_of_one hres4
        have c4 := free_of_one hres4
        go_wp2_with fail
        have c6 : (w4.setCell ⟨t3, 0, none⟩ (.slice (some ⟨g, 0, none⟩) (len f + 1) cap)).cell? ⟨w.heap.size, 0, none⟩ = some (.slice none 0 0) := by
          rw [World.cell?_setCell_other _ _ _ _ (fun e => absurd (congrArg Addr.block e) (by show t3 ≠ w.heap.size; omega))]; exact c3
        have hres := World.cell?_setCell_same (w4.setCell ⟨t3, 0, none⟩ (.slice (some ⟨g, 0, none⟩) (len f + 1) cap)) ⟨w.heap.size, 0, none⟩ (.slice (some ⟨g, 0, none⟩) (len f + 1) cap) c6
        have hks : Ks (fun b => w.heap.size < b ∧ b ≠ t3) w3 (w4.setCell ⟨t3, 0, none⟩ (.slice (some ⟨g, 0, none⟩) (len f + 1) cap)) := fun b hb hlt => by
          rw [Below.heap_setCell _ _ _ _ hb.2]; exact hx4.block b hlt
        have hg4 : SA (w4.setCell ⟨t3, 0, none⟩ (.slice (some ⟨g, 0, none⟩) (len f + 1) cap)) (fun b => w.heap.size < b ∧ b ≠ t3) (snoc f 0 .nil) (some ⟨g, 0, none⟩) := by
          refine SA_snoc (olds := olds) (cur := cur) (e := 32) (a0 := none) (c0 := 0) ⟨by omega, by omega⟩ ?_ ?_ ho1 (fun i hi => ?_) (Or.inl rfl)
          · rw [Below.heap_setCell _ _ _ _ (by show g ≠ t3; omega)]; exact G4.out
          · have := TK.out; rw [Nat.mul_one] at this; exact this
          · obtain ⟨a', k', h1, h2⟩ := O3.out i hi
            exact ⟨a', k', h1, SA_ks h2 hks⟩
        have hfin := FIN.out _ _ _ (.slice (some ⟨g, 0, none⟩) (len f + 1) cap) hg4 ((R3.out.ex hx4).set (by show rb < t3; omega) _) ((F3.out.ex hx4).set (Or.inr (by show w.heap.size ≤ t3; omega)) _)
        refine bodyPost_ret (v := .agg #[.slice (some ⟨g, 0, none⟩) (len f + 1) cap]) (by simp [results, Tryd.results12, go_sem, hres]) rfl ⟨snoc f 0 .nil, _, cap, q0 + 1, by rw [len_snoc], hfin.1, ⟨by rw [len_snoc]; omega, Sm_snoc 0 SM.out.2 ⟨by simp [len], trivial⟩⟩, by have := dep_snoc f 0 .nil; have := DP.out; simp only [dep] at *; omega, by omega, by omega, hfin.2.1, hfin.2.2⟩
    · have e0 : (y == 0) = false := by simp; omega
      have e1 : (y == 1) = false := by simp; omega
      go_wp2_with fail
      have hres := World.cell?_setCell_same w3 ⟨w.heap.size, 0, none⟩ (.slice a (len f) (len f)) c3
      have hfin := FIN.out w3 f a (.slice a (len f) (len f)) T3.out R3.out F3.out
      exact bodyPost_ret (v := .agg #[.slice a (len f) (len f)]) (by simp [results, Tryd.results12, go_sem, hres]) rfl ⟨f, a, len f, q0 + 1, rfl, hfin.1, ⟨by have := SM.out; omega, SM.out.2⟩, by have := DP.out; omega, by omega, by omega, hfin.2.1, hfin.2.2⟩

end Go.Proofs.YtldbmlojgakieaaDoor

namespace Go.Proofs.YtldbmlojgakieaaDoor

open Go.RowKit Go.Deep

attribute [local go_sem ↓] Go.wp_at_zero Go.wp_at_succ

/-- Two types are the same. -/
def eqT : F → F → Bool
  | .nil, .nil => true
  | .node _ _ _ k r, .node _ _ _ k' r' => eqT k k' && eqT r r'
  | .nil, .node _ _ _ _ _ => false
  | .node _ _ _ _ _, .nil => false

theorem eqT_refl : ∀ f : F, eqT f f = true
  | .nil => rfl
  | .node _ _ _ k r => by simp [eqT, eqT_refl k, eqT_refl r]

theorem eqT_len : ∀ (f g : F), len f ≠ len g → eqT f g = false
  | .nil, .nil, h => by simp [len] at h
  | .node _ _ _ k r, .node _ _ _ k' r', h => by
    have : eqT r r' = false := eqT_len r r' (by simp only [len] at h; omega)
    simp [eqT, this]
  | .nil, .node _ _ _ _ _, _ => rfl
  | .node _ _ _ _ _, .nil, _ => rfl

theorem eqT_bad : ∀ (f g : F) (i : Nat), i < len f → eqT (kid f i) (kid g i) = false → eqT f g = false
  | .nil, _, i, h, _ => by simp [len] at h
  | .node _ _ _ k r, .nil, _, _, _ => rfl
  | .node _ _ _ k r, .node _ _ _ k' r', 0, _, h => by simp only [kid] at h; simp [eqT, h]
  | .node _ _ _ k r, .node _ _ _ k' r', i + 1, hi, h => by
    have := eqT_bad r r' i (by simp only [len] at hi; omega) h
    simp [eqT, this]

theorem eqT_good : ∀ (f g : F), len f = len g → (∀ i, i < len f → eqT (kid f i) (kid g i) = true) → eqT f g = true
  | .nil, .nil, _, _ => rfl
  | .node _ _ _ k r, .node _ _ _ k' r', hl, h => by
    have h0 : eqT k k' = true := h 0 (by simp [len])
    have h1 : eqT r r' = true := eqT_good r r' (by simp only [len] at hl; omega) fun i hi => h (i + 1) (by simp only [len]; omega)
    simp [eqT, h0, h1]
  | .nil, .node _ _ _ _ _, hl, _ => by simp [len] at hl
  | .node _ _ _ _ _, .nil, hl, _ => by simp [len] at hl

set_option maxRecDepth 100000 in
set_option maxHeartbeats 2000000 in
theorem lhType_any : ∀ (d : Nat) (f g : F) (a a' : Option Addr) (c c' lo lo' : Nat) (w : World), dep f < d → len f ≤ 1000000000 → Sm f → TA w lo f a → TA w lo' g a' →
    Calls Tryd.prog 7 #[.agg #[.slice a (len f) c], .agg #[.slice a' (len g) c']] w fun e w' => e = .returned (.bool (eqT f g)) ∧ Ex w w' := by
  intro d
  induction d with
  | zero =>
    intro f g a a' c c' lo lo' w hd hl hs hT hT'
    omega
  | succ d ih =>
    intro f g a a' c c' lo lo' w hd hl hs hT hT'
    have T : Hid (TA w lo f a) := hT
    have T' : Hid (TA w lo' g a') := hT'
    have I : Hid _ := ih
    have SS : Hid (Sm f) := hs
    clear hT hT' ih hs
    by_cases hlen : len f = len g
    · have e0 : ((len f : Int) != (len g : Int)) = false := by simp [hlen]
      have hle : len f ≤ len g := by omega
      have hge : len g ≤ len f := by omega
      have HL : Hid (len f = len g) := hlen
      clear hlen
      go_enter Tryd.func7, Tryd.ntmps7
      go_wp2_with fail
      go_loopw [5] (fun i wr => ∃ k : Nat, k ≤ len f ∧ i = .int .i64 k ∧ Ex ((w.alloc (.cells #[.slice a (len f) c] 32)).alloc (.cells #[.slice a' (len g) c'] 32)) wr ∧ ∀ j, j < k → eqT (kid f j) (kid g j) = true) (fun i _ => len f - (intOf i).toNat)
      case atStart => exact ⟨0, Nat.zero_le _, rfl, Ex.refl _, fun j hj => by omega⟩
      case round =>
        obtain ⟨k, hk, rfl, hx, hfit⟩ := hrel
        have hbx : wr.cell? ⟨w.heap.size, 0, none⟩ = some (.slice a (len f) c) := Ex.at hx (Ex.at (Ex.new _ _) (World.cell?_alloc_new _ _ _ _))
        have hbx' : wr.cell? ⟨w.heap.size + 1, 0, none⟩ = some (.slice a' (len g) c') := Ex.at hx (World.cell?_alloc_at _ _ _ _ (by simp))
        have hw : Ex w wr := ((Ex.new _ _).alloc _).trans hx
        have FT : Hid (∀ j, j < k → eqT (kid f j) (kid g j) = true) := hfit
        clear hfit
        by_cases hlt : k < len f
        · obtain ⟨b, o, rfl, hlo, hbs, hkk⟩ := TA_at (TA_below T.out hw) (by omega)
          obtain ⟨a1, c1, hc1, ht1⟩ := hkk k hlt
          obtain ⟨b', o', rfl, hlo', hbs', hkk'⟩ := TA_at (TA_below T'.out hw) (by omega)
          obtain ⟨a2, c2, hc2, ht2⟩ := hkk' k (by omega)
          have T1 : Hid (∀ w', Ex wr w' → TA w' lo (kid f k) a1) := fun _ h => TA_below ht1 h
          have T2 : Hid (∀ w', Ex wr w' → TA w' lo' (kid g k) a2) := fun _ h => TA_below ht2 h
          have KS : Hid (∀ w', Ex wr w' → (Ex wr w' ∧ w'.cell? ⟨w.heap.size, 0, none⟩ = some (.slice (some ⟨b, o, none⟩) (len f) c) ∧ w'.cell? ⟨w.heap.size + 1, 0, none⟩ = some (.slice (some ⟨b', o', none⟩) (len g) c') ∧ w'.cell? ⟨b, o + k, none⟩ = some (.slice a1 (len (kid f k)) c1) ∧ w'.cell? ⟨b', o' + k, none⟩ = some (.slice a2 (len (kid g k)) c2))) := fun w' h => ⟨h, Ex.at h hbx, Ex.at h hbx', Ex.at h hc1, Ex.at h hc2⟩
          have hI : Hid (∀ w', Ex wr w' → Calls Tryd.prog 7 #[.agg #[.slice a1 (len (kid f k)) c1], .agg #[.slice a2 (len (kid g k)) c2]] w' fun e w'' => e = .returned (.bool (eqT (kid f k) (kid g k))) ∧ Ex w' w'') := fun w' h =>
            I.out (kid f k) (kid g k) a1 a2 c1 c2 lo lo' w' (by have := dep_kid f k hlt; omega) (Sm_kid SS.out k hlt).1 (Sm_kid SS.out k hlt).2 (T1.out w' h) (T2.out w' h)
          have i0 : (0 : Int) ≤ (k : Int) := by omega
          have i1 : (k : Int) < (len f : Int) := by omega
          have i2 : (k : Int) < (len g : Int) := by omega
          clear hkk hkk' ht1 ht2
          go_wp2_with fail
          go_region_held3 (fun w' => Ex wr w' ∧ w'.cell? ⟨w.heap.size, 0, none⟩ = some (.slice (some ⟨b, o, none⟩) (len f) c) ∧ w'.cell? ⟨w.heap.size + 1, 0, none⟩ = some (.slice (some ⟨b', o', none⟩) (len g) c') ∧ w'.cell? ⟨b, o + k, none⟩ = some (.slice a1 (len (kid f k)) c1) ∧ w'.cell? ⟨b', o' + k, none⟩ = some (.slice a2 (len (kid g k)) c2)) ((refine KS.out _ ?_; first | exact (Ex.refl _).drew | exact Ex.trans (And.left ‹Ex _ _ ∧ _›) ‹Ex _ _›)) (first | (go_at_call 7; refine (hI.out _ (And.left ‹Ex _ _ ∧ _›)).mono ?_; rintro e w7 ⟨rfl, hb7⟩))
          have hx7 : Ex wr w7 := And.left ‹Ex wr w7 ∧ _›
          cases hfk : eqT (kid f k) (kid g k)
          · go_wp2_with fail
            go_ret
            exact ⟨ret_b (eqT_bad _ _ k hlt hfk).symm, hw.trans hx7⟩
          · go_wp2_with fail
            go_roundw
            case rel => exact ⟨k + 1, by omega, by go_num, hx.trans hx7, fun j hj => by
              by_cases hj' : j < k
              · exact FT.out j hj'
              · rw [show j = k by omega]; exact hfk⟩
            case measure => simp [intOf]; omega
        · go_wp2_with fail
          go_ret
          exact ⟨ret_b (eqT_good _ _ HL.out fun j hj => FT.out j (by omega)).symm, hw⟩
    · have e0 : ((len f : Int) != (len g : Int)) = true := by simp; omega
      go_enter Tryd.func7, Tryd.ntmps7
      go_wp2_with fail
      go_ret
      exact ⟨ret_b (eqT_len _ _ hlen).symm, (Ex.new _ _).alloc _⟩

end Go.Proofs.YtldbmlojgakieaaDoor

namespace Go.Proofs.YtldbmlojgakieaaDoor

open Go.RowKit Go.Deep

attribute [local go_sem ↓] Go.wp_at_zero Go.wp_at_succ

theorem Tryd.info3 : (Tryd.prog.info? 3).map (fun i => (i.zero, i.size, i.bytes)) = some (some (.int .i64 0), 1, 8) := by kernel_rfl

theorem heap_alloc_at (w : World) (o : Obj) {n : Nat} (h : n = w.heap.size) : (w.alloc o).heap[n]? = some o := by subst h; exact heap_alloc_new _ _

/-- Numbers in memory that the call itself has made. -/
abbrev Own (w : World) (base : Nat) (v : Value) (xs : List Int) : Prop := w.ownsRow base 3 1 v xs.length (xs.map (Value.int .i64))

theorem Own.PA {w : World} {base : Nat} {v : Value} {xs : List Int} (h : Own w base v xs) : ∃ pa pc, v = .slice pa xs.length pc ∧ PA w base xs pa ∧ xs.length ≤ pc ∧ pc ≤ 9223372036854775807 ∧ ((pa = none ∧ pc = 0) ∨ ∃ g, pa = some ⟨g, 0, none⟩) := by
  obtain ⟨_, ⟨rfl, h0⟩ | ⟨g, cap, cur, rfl, hg, hgc, hcap, hcm, _, ht⟩⟩ := h
  · exact ⟨none, 0, by rw [h0], Or.inl h0, by omega, by omega, Or.inl ⟨rfl, rfl⟩⟩
  · refine ⟨some ⟨g, 0, none⟩, cap, rfl, Or.inr ⟨g, 0, rfl, hg, fun i hi => ?_⟩, hcap, by unfold maxLen at hcm; omega, Or.inr ⟨g, rfl⟩⟩
    have : (cur.toList.take (xs.length * 1))[i]? = (xs.map (Value.int .i64))[i]? := by rw [ht]
    rw [Nat.mul_one, List.getElem?_take_of_lt hi, List.getElem?_map] at this
    simp [World.cell?, hgc]
    simp at this
    rw [this]
    simp [hi]

theorem Own.keep {w w' : World} {base : Nat} {v : Value} {xs : List Int} (h : Own w base v xs) (hk : Kp base w w') : Own w' base v xs := by
  obtain ⟨h1, h2 | ⟨g, cap, cur, rfl, hg, hgc, r⟩⟩ := h
  · exact ⟨h1, Or.inl h2⟩
  · exact ⟨h1, Or.inr ⟨g, cap, cur, rfl, hg, (hk.block g hg (lt_of_block hgc)).trans hgc, r⟩⟩

theorem Own.lo {w : World} {base base' : Nat} {v : Value} {xs : List Int} (h : Own w base v xs) (hb : base' ≤ base) : Own w base' v xs := by
  obtain ⟨h1, h2 | ⟨g, cap, cur, rfl, hg, r⟩⟩ := h
  · exact ⟨h1, Or.inl h2⟩
  · exact ⟨h1, Or.inr ⟨g, cap, cur, rfl, Nat.le_trans hb hg, r⟩⟩
theorem Own.row {w : World} {base : Nat} {v : Value} {xs : List Int} (h : Own w base v xs) : ∀ k, v.ownBlock = some k → base ≤ k := by
  obtain ⟨_, ⟨rfl, _⟩ | ⟨g, cap, cur, rfl, hg, _⟩⟩ := h
  · intro k hk; cases hk
  · intro k hk; cases hk; exact hg
theorem Rd.below {w w' : World} {rb p B : Nat} (h : Rd w rb p) (hb : Below B w w') (hB : rb < B) : Rd w' rb p := by
  obtain ⟨ca, n, cc, h1, h2, h3⟩ := h
  refine ⟨ca, n, cc, (hb.block rb hB).trans h1, h2, ?_⟩
  rcases h3 with h3 | ⟨cb, co, h4, h5, h6⟩
  · exact Or.inl h3
  · exact Or.inr ⟨cb, co, h4, h5, fun i hi => by obtain ⟨x, hc, hx0⟩ := h6 i hi; exact ⟨x, (hb.cell (by show cb < B; omega)).trans hc, hx0⟩⟩
theorem Fr.below {rb B : Nat} {a b c : World} (h : Fr rb a b) (k : Below B b c) (hB : a.heap.size ≤ B) : Fr rb a c :=
  ⟨k.os.trans h.os, k.tape.trans h.tape, k.output.trans h.output, Nat.le_trans h.size k.size, fun i hi hn => (k.block i (by omega)).trans (h.block i hi hn)⟩

/-- While a region goes on: of W only blocks rb and n have turned, and block n has c cells of type t that may be written. -/
def FC (rb n c : Nat) (t : TypeId) (W w : World) : Prop := (w.os = W.os ∧ w.tape = W.tape ∧ w.output = W.output ∧ W.heap.size ≤ w.heap.size) ∧ (∀ k, k < W.heap.size → k ≠ rb → k ≠ n → w.heap[k]? = W.heap[k]?) ∧ ∃ vs : Array Value, vs.size = c ∧ w.heap[n]? = some (.cells vs t (0, 0))
theorem FC.start {rb n c : Nat} {t : TypeId} {W : World} {vs : Array Value} (h : W.heap[n]? = some (.cells vs t (0, 0))) (hc : vs.size = c) : FC rb n c t W W := ⟨⟨rfl, rfl, rfl, Nat.le_refl _⟩, fun _ _ _ _ => rfl, vs, hc, h⟩
theorem FC.drew {rb n c : Nat} {t : TypeId} {W w : World} (h : FC rb n c t W w) : FC rb n c t W w.drew := h
theorem FC.fr {rb n c : Nat} {t : TypeId} {W w w' : World} (h : FC rb n c t W w) (hf : Fr rb w w') (hn : n ≠ rb) : FC rb n c t W w' := by
  obtain ⟨⟨h1, h2, h3, h4⟩, h5, vs, h6, h7⟩ := h
  exact ⟨⟨hf.os.trans h1, hf.tape.trans h2, hf.output.trans h3, Nat.le_trans h4 hf.size⟩, fun k hk e1 e2 => (hf.block k (Nat.lt_of_lt_of_le hk h4) e1).trans (h5 k hk e1 e2), vs, h6, hf.blk hn h7⟩
theorem FC.ex {rb n c : Nat} {t : TypeId} {W w w' : World} (h : FC rb n c t W w) (hf : Ex w w') (hn : n ≠ rb) : FC rb n c t W w' := h.fr (Fr.of_ex hf _) hn
theorem FC.set {rb n c : Nat} {t : TypeId} {W w : World} (h : FC rb n c t W w) (i : Nat) (v : Value) : FC rb n c t W (w.setCell ⟨n, i, none⟩ v) := by
  obtain ⟨⟨h1, h2, h3, h4⟩, h5, vs, h6, h7⟩ := h
  refine ⟨⟨h1, h2, h3, by rw [World.size_setCell]; exact h4⟩, fun k hk e1 e2 => by rw [Below.heap_setCell _ _ _ _ e2]; exact h5 k hk e1 e2, vs.setIfInBounds i v, by simp [h6], ?_⟩
  simp [World.setCell, Array.getElem?_modify, h7]
theorem FC.cell {rb n c : Nat} {t : TypeId} {W w : World} (h : FC rb n c t W w) (i : Nat) (hi : i < c) : ∃ v, w.cell? ⟨n, i, none⟩ = some v := by
  obtain ⟨_, _, vs, h6, h7⟩ := h
  exact ⟨vs[i]'(by omega), by simp [World.cell?, h7, h6, hi]⟩
theorem FC.frozen {rb n c : Nat} {t : TypeId} {W w : World} (h : FC rb n c t W w) (i : Nat) : w.frozen? ⟨n, i, none⟩ = false := by
  obtain ⟨_, _, vs, h6, h7⟩ := h
  simp [World.frozen?, h7]
theorem FC.at {rb n c : Nat} {t : TypeId} {W w : World} (h : FC rb n c t W w) {p : Addr} {v : Value} (h1 : p.block ≠ rb) (h2 : p.block ≠ n) (hc : W.cell? p = some v) : w.cell? p = some v :=
  (World.cell?_of_block (w := W) (h.2.1 _ (World.block_lt_of_cell? _ _ hc) h1 h2)).trans hc
theorem FC.kp {rb n c lo : Nat} {t : TypeId} {W w : World} (h : FC rb n c t W w) (h1 : rb < lo) (h2 : n < lo) : Kp lo W w := ⟨h.1.2.2.2, fun k hk hk2 => h.2.1 k hk2 (by omega) (by omega)⟩
theorem FC.to_ex {rb n c : Nat} {t : TypeId} {w0 W w : World} (h : FC rb n c t W w) (hx : Ex w0 W) (h1 : w0.heap.size ≤ rb) (h2 : w0.heap.size ≤ n) : Ex w0 w :=
  ⟨h.1.1.trans hx.os, h.1.2.1.trans hx.tape, h.1.2.2.1.trans hx.output, Nat.le_trans hx.size h.1.2.2.2, fun k hk => (h.2.1 k (Nat.lt_of_lt_of_le hk hx.size) (by omega) (by omega)).trans (hx.block k hk)⟩

end Go.Proofs.YtldbmlojgakieaaDoor

namespace Go.Proofs.YtldbmlojgakieaaDoor

open Go.RowKit Go.Deep

attribute [local go_sem ↓] Go.wp_at_zero Go.wp_at_succ

theorem l6In_any (n lo hi : Int) (w : World) : Calls Tryd.prog 24 #[.int .i64 n, .int .i64 lo, .int .i64 hi] w fun e w' => e = .returned (.bool (decide (lo ≤ n ∧ n ≤ hi))) ∧ Ex w w' := by
  by_cases h : lo ≤ n
  · have e0 : decide (lo ≤ n) = true := by simp [h]
    go_enter Tryd.func24, Tryd.ntmps24
    go_wp2_with fail
    go_ret
    exact ⟨ret_b (by simp [h]), Ex.refl _⟩
  · have e0 : decide (lo ≤ n) = false := by simp; omega
    go_enter Tryd.func24, Tryd.ntmps24
    go_wp2_with fail
    go_ret
    exact ⟨ret_b (by simp), Ex.refl _⟩

theorem owns_ex {w w' : World} {base : Nat} {e : TypeId} {size : Nat} {v : Value} {n : Nat} {xs : List Value} (h : w.ownsRow base e size v n xs) (hx : Ex w w') : w'.ownsRow base e size v n xs := by
  obtain ⟨h1, h2 | ⟨g, cap, cur, rfl, hg, hgc, r⟩⟩ := h
  · exact ⟨h1, Or.inl h2⟩
  · exact ⟨h1, Or.inr ⟨g, cap, cur, rfl, hg, hx.blk hgc, r⟩⟩
theorem owns_row {w : World} {base : Nat} {e : TypeId} {size : Nat} {v : Value} {n : Nat} {xs : List Value} (h : w.ownsRow base e size v n xs) : ∀ k, v.ownBlock = some k → base ≤ k := by
  obtain ⟨_, ⟨rfl, _⟩ | ⟨g, cap, cur, rfl, hg, _⟩⟩ := h
  · intro k hk; cases hk
  · intro k hk; cases hk; exact hg
theorem grown_blk {w w' : World} {v : Value} {base n : Nat} {o o' : Obj} (h : (w.alloc o').grownBy w' v.ownBlock) (hr : ∀ k, v.ownBlock = some k → base ≤ k) (hn : n < base) (hb : w.heap[n]? = some o) : w'.heap[n]? = some o := by
  have hlt := lt_of_block hb
  exact (h.block n (by rw [World.size_alloc]; omega) (fun e => by have := hr n e.symm; omega)).trans ((Ex.new _ _).blk hb)

theorem Ex.grown {a b c : World} {v : Value} {base : Nat} {o : Obj} (h : Ex a b) (hg : (b.alloc o).grownBy c v.ownBlock) (hr : ∀ k, v.ownBlock = some k → base ≤ k) (hb : a.heap.size ≤ base) : Ex a c :=
  ⟨hg.os.trans h.os, hg.tape.trans h.tape, hg.output.trans h.output, Nat.le_trans (h.alloc o).size hg.size, fun k hk => (hg.block k (Nat.lt_of_lt_of_le hk (h.alloc o).size) (fun e => by have := hr k e.symm; omega)).trans ((h.alloc o).block k hk)⟩

theorem kids_step {wr w1 w2 : World} {base k gg cap k2 out : Nat} {e : TypeId} {v u : Value} {cs : List Value} {f : F} {a2 : Option Addr} {o' : Obj}
    (O : wr.ownsRow base e 1 v k cs) (hb2 : Ex wr w1) (hgrow : (w1.alloc o').grownBy w2 v.ownBlock) (hat : v.ownBlock = some gg ∨ gg = w1.heap.size + 1) (hout : out < base)
    (KI : ∀ j, j < k → ∃ a' c', cs[j]? = some (.slice a' (len (kid f j)) c') ∧ SA wr (fun b => base ≤ b ∧ v.ownBlock ≠ some b) (kid f j) a')
    (ht2 : TA w1 wr.heap.size (kid f k) a2) (hbase : base ≤ wr.heap.size) :
    ∀ j, j < k + 1 → ∃ a' c', (cs ++ [Value.slice a2 (len (kid f k)) k2])[j]? = some (.slice a' (len (kid f j)) c') ∧ SA (w2.setCell ⟨out, 0, none⟩ u) (fun b => base ≤ b ∧ (Value.slice (some ⟨gg, 0, none⟩) (k + 1) cap).ownBlock ≠ some b) (kid f j) a' := by
  have hcs : cs.length = k := by have := O.1; omega
  have hvb : ∀ g, v.ownBlock = some g → g < wr.heap.size := by
    obtain ⟨_, ⟨rfl, _⟩ | ⟨g, c, cur, rfl, hg, hgc, _⟩⟩ := O
    · intro g hg; cases hg
    · intro g' hg'; cases hg'; exact lt_of_block hgc
  have move : ∀ (g : F) (a' : Option Addr), SA w1 (fun b => base ≤ b ∧ v.ownBlock ≠ some b) g a' → SA (w2.setCell ⟨out, 0, none⟩ u) (fun b => base ≤ b ∧ (Value.slice (some ⟨gg, 0, none⟩) (k + 1) cap).ownBlock ≠ some b) g a' := by
    intro g a' h
    have h1 := SA_mono (S' := fun b => base ≤ b ∧ v.ownBlock ≠ some b ∧ b < w1.heap.size) h fun b hb hs => ⟨hs.1, hs.2, hb⟩
    have h2 : SA w2 (fun b => base ≤ b ∧ v.ownBlock ≠ some b ∧ b < w1.heap.size) g a' := SA_ks h1 fun b hs hlt => (hgrow.block b (by rw [World.size_alloc]; omega) (fun e => hs.2.1 e.symm)).trans ((Ex.new _ _).block b hlt)
    have h3 : SA (w2.setCell ⟨out, 0, none⟩ u) (fun b => base ≤ b ∧ v.ownBlock ≠ some b ∧ b < w1.heap.size) g a' := SA_ks h2 fun b hs _ => Below.heap_setCell _ _ _ _ (by show b ≠ out; omega)
    refine SA_mono h3 fun b _ hs => ⟨hs.1, fun e => ?_⟩
    have e' : gg = b := by simpa [Value.ownBlock] using e
    rcases hat with h | h
    · exact hs.2.1 (by rw [h, e'])
    · have := hs.2.2; omega
  intro j hj
  by_cases h : j < k
  · obtain ⟨a', c', h1, h2⟩ := KI j h
    exact ⟨a', c', by rw [List.getElem?_append_left (by omega)]; exact h1, move _ _ (SA_ks h2 fun b _ hlt => hb2.block b hlt)⟩
  · have e : j = k := by omega
    subst e
    refine ⟨a2, k2, by rw [List.getElem?_append_right (by omega)]; simp [hcs], move _ _ (SA_mono ht2 fun b _ hb => ⟨Nat.le_trans hbase hb, fun e => by have := hvb b e; omega⟩)⟩

set_option maxRecDepth 100000 in
set_option maxHeartbeats 4000000 in
theorem l1Copy_any : ∀ (d : Nat) (f : F) (a : Option Addr) (c lo : Nat) (w : World), dep f < d → len f ≤ 1000000000 → Sm f → TA w lo f a →
    Calls Tryd.prog 19 #[.agg #[.slice a (len f) c]] w fun e w' => ∃ a' c', e = .returned (.agg #[.slice a' (len f) c']) ∧ TA w' w.heap.size f a' ∧ Ex w w' := by
  intro d
  induction d with
  | zero => intro f a c lo w hd; omega
  | succ d ih =>
    intro f a c lo w hd hl hs hT
    have T : Hid (TA w lo f a) := hT
    have I : Hid _ := ih
    have SS : Hid (Sm f) := hs
    obtain ⟨i0, hi, hz0, hz1, hz2⟩ := info_parts Tryd.info32
    clear hT ih hs
    go_enter Tryd.func19, Tryd.ntmps19
    go_wp2_with fail
    go_loopw [4] (fun i wr => ∃ (k : Nat) (v : Value) (cs : List Value), k ≤ len f ∧ i = .int .i64 k ∧ Ex (w.alloc (.cells #[.slice a (len f) c] 32)) wr ∧ wr.heap[w.heap.size + 1]? = some (.cells #[.slice none 0 0] 32 (0, 0)) ∧ wr.heap[w.heap.size + 2]? = some (.cells #[v] 32 (0, 0)) ∧ wr.ownsRow (w.heap.size + 3) 32 1 v k cs ∧ (∀ j, j < k → ∃ a' c', cs[j]? = some (.slice a' (len (kid f j)) c') ∧ SA wr (fun b => w.heap.size + 3 ≤ b ∧ v.ownBlock ≠ some b) (kid f j) a')) (fun i _ => len f - (intOf i).toNat)
    case atStart =>
      refine ⟨0, .slice none 0 0, [], Nat.zero_le _, rfl, (Ex.new _ _).alloc _, ?_, ?_, World.ownsRow_nil _ _ _ _, fun j hj => by omega⟩
      · exact (Ex.new _ _).blk (heap_alloc_at _ _ (by simp))
      · exact heap_alloc_at _ _ (by simp)
    case round =>
      obtain ⟨k, v, cs, hk, rfl, hx, hrb, hob, hown, hkids⟩ := hrel
      have hbx : wr.cell? ⟨w.heap.size, 0, none⟩ = some (.slice a (len f) c) := Ex.at hx (World.cell?_alloc_new _ _ _ _)
      have hw : Ex w wr := (Ex.new _ _).trans hx
      have O : Hid (wr.ownsRow (w.heap.size + 3) 32 1 v k cs) := hown
      have KI : Hid _ := hkids
      have c1 := cell_of_one hob
      have c2 := free_of_one hob
      have c3 := cell_of_one hrb
      have c4 := free_of_one hrb
      clear hown hkids
      by_cases hlt : k < len f
      · obtain ⟨b, o, rfl, hlo, hbs, hkk⟩ := TA_at (TA_below T.out hw) (by omega)
        obtain ⟨a1, k1, hc1, ht1⟩ := hkk k hlt
        have IK : Hid (∀ w', Ex wr w' → Calls Tryd.prog 19 #[.agg #[.slice a1 (len (kid f k)) k1]] w' fun e w'' => ∃ a' c', e = .returned (.agg #[.slice a' (len (kid f k)) c']) ∧ TA w'' w'.heap.size (kid f k) a' ∧ Ex w' w'') := fun w' h =>
          I.out (kid f k) a1 k1 lo w' (by have := dep_kid f k hlt; omega) (Sm_kid SS.out k hlt).1 (Sm_kid SS.out k hlt).2 (TA_below ht1 h)
        have i1 : (0 : Int) ≤ (k : Int) := by omega
        have i2 : (k : Int) < (len f : Int) := by omega
        clear hkk ht1
        have z0 : w.heap.size + 2 < wr.heap.size := lt_of_block hob
        go_wp2_with fail
        go_region_law (first
          | (refine step_append_lies _ (by rfl) _ _ _ (by rfl) (w.heap.size + 3) 32 i0 _ 1 24 Tryd.underlying24 hi hz0 hz1 hz2 rfl (by omega) v k cs (by rfl) (World.ownsRow.alloc O1.out _) ⟨w1.heap.size, 0, none⟩ 1 1 [.slice a2 (len (kid f k)) k2] (by rfl) (by rfl) (World.news_of_block (cs := #[.slice a2 (len (kid f k)) k2]) (t := 32) (fr := (0, 0)) (heap_alloc_new w1 _)) (by simp [Value.oneCell']) (by omega) (by unfold maxLen; omega) (by omega) (by rw [World.size_alloc]; omega) (w1.heap.size + 1) (by simp) ?_; intro gg cap w2 hown2 hgrow hat hlt2; have p1 := cell_of_one (grown_blk hgrow (owns_row O1.out) (by omega) hob1); have p2 := free_of_one (grown_blk hgrow (owns_row O1.out) (by omega) hob1))
          | (rw [if_pos (by rfl)]; go_simp; go_at_call 19; refine (IK.out _ (Ex.refl _).drew).mono ?_; rintro e w1 ⟨a2, k2, rfl, ht2, hb2'⟩; have hb2 : Ex wr w1 := Ex.trans (Ex.drew (Ex.refl _)) hb2'; have q1 := Ex.at hb2 hbx; have q2 := Ex.at hb2 c1; have q3 := Ex.at hb2 hc1; have hob1 := hb2.blk hob; have O1 : Hid (w1.ownsRow (w.heap.size + 3) 32 1 v k cs) := owns_ex O.out hb2; have z1 := hb2.size; have z2 : w.heap.size + 2 < w1.heap.size := by omega))
        all_goals
          have KS := kids_step (out := w.heap.size + 2) (u := .slice (some ⟨gg, 0, none⟩) (k + 1) cap) (cap := cap) (k2 := k2) O.out hb2 hgrow hat (by omega) KI.out ht2 (by omega)
          have KS2 : Hid _ := KS
          have hob2 := grown_blk hgrow (owns_row O1.out) (by omega) hob1
          have hrb2 := grown_blk hgrow (owns_row O1.out) (by omega) (hb2.blk hrb)
          have HX : Hid (Ex (w.alloc (.cells #[.slice (some ⟨b, o, none⟩) (len f) c] 32)) w2) := (hx.trans hb2).grown hgrow (owns_row O1.out) (by rw [World.size_alloc]; omega)
          have HO : Hid _ := hown2
          clear KS hgrow hown2
          go_wp2_with fail
          go_roundw
          case rel =>
            refine ⟨k + 1, .slice (some ⟨gg, 0, none⟩) (k + 1) cap, cs ++ [.slice a2 (len (kid f k)) k2], by omega, by go_num, HX.out.set ?_ _, ?_, one_setCell hob2, ownsRow_setCell_below HO.out ?_ _, KS2.out⟩
            · rw [World.size_alloc]; show w.heap.size + 1 ≤ w.heap.size + 2; omega
            · rw [Below.heap_setCell _ _ _ _ (by show w.heap.size + 1 ≠ w.heap.size + 2; omega)]; exact hrb2
            · show w.heap.size + 2 < w.heap.size + 3; omega
          case measure => simp [intOf]; omega
      · have hke : k = len f := by omega
        obtain ⟨hcl, ⟨hv, h0⟩ | ⟨g, cap, cur, hv, hg, hgc, _, _, _, htk⟩⟩ := O.out
        · subst hv
          have HK : Hid (len f = 0) := by show _ = _; omega
          clear hke h0
          go_wp2_with fail
          have hres := World.cell?_setCell_same wr ⟨w.heap.size + 1, 0, none⟩ (.slice none 0 0) c3
          exact bodyPost_ret (v := .agg #[.slice none 0 0]) (by simp [results, Tryd.results19, go_sem, hres]) rfl ⟨none, 0, by rw [HK.out], Or.inl HK.out, hw.set (by show w.heap.size ≤ w.heap.size + 1; omega) _⟩
        · subst hv
          have HK : Hid (k = len f) := hke
          have TK : Hid _ := htk
          have HG : Hid _ := hgc
          clear hke htk hgc
          go_wp2_with fail
          have hres := World.cell?_setCell_same wr ⟨w.heap.size + 1, 0, none⟩ (.slice (some ⟨g, 0, none⟩) k cap) c3
          refine bodyPost_ret (v := .agg #[.slice (some ⟨g, 0, none⟩) k cap]) (by simp [results, Tryd.results19, go_sem, hres]) rfl ⟨some ⟨g, 0, none⟩, cap, by rw [HK.out], ?_, hw.set (by show w.heap.size ≤ w.heap.size + 1; omega) _⟩
          refine SA_mk (by omega) fun i hi => ?_
          obtain ⟨a', c', h1, h2⟩ := KI.out i (by have := HK.out; omega)
          refine ⟨a', c', ?_, ?_⟩
          · rw [World.cell?_setCell_other _ _ _ _ (fun e => absurd (congrArg Addr.block e) (by show w.heap.size + 1 ≠ g; omega))]
            have ht := TK.out
            rw [Nat.mul_one] at ht
            rw [← ht, List.getElem?_take_of_lt (by have := HK.out; omega)] at h1
            have hgg := HG.out
            simp [World.cell?, hgg] at h1 ⊢
            exact h1
          · exact SA_mono (SA_ks h2 fun b hb _ => Below.heap_setCell _ _ _ _ (by show b ≠ w.heap.size + 1; omega)) fun b _ hb => by omega

theorem fits_kid_ex {r : Nat} {g : F} (h : fits r g = true) (hr : r ≤ 4) (i : Nat) (hi : i < len g) : ∃ r', r' ≤ 4 ∧ fits r' (kid g i) = true := by
  cases r with
  | zero => simp [fits] at h
  | succ r =>
    have h2 : len g = 2 := by have := fits_len h; omega
    rw [fits_two h2, Bool.and_eq_true] at h
    have : i = 0 ∨ i = 1 := by omega
    rcases this with rfl | rfl
    · exact ⟨r, by omega, h.1⟩
    · exact ⟨r, by omega, h.2⟩

set_option maxRecDepth 100000 in
set_option maxHeartbeats 4000000 in
theorem sTypeAt_any (f : F) (p : List Int) (a : Option Addr) (cap : Nat) (pa : Option Addr) (pc : Nat) (lo : Nat) (w : World) (hp : p.length ≤ 1000000000) (hT : TA w lo f a) (hP : PA w 0 p pa) :
    Calls Tryd.prog 27 #[.agg #[.slice a (len f) cap], .slice pa p.length pc] w fun e w' =>
      ∃ a' cap', e = .returned (.tuple #[.agg #[.slice a' (len (typeAtR f p).1) cap'], .bool (typeAtR f p).2]) ∧ TA w' w.heap.size (typeAtR f p).1 a' ∧ Ex w w' := by
  have T : Hid (TA w lo f a) := hT
  have P : Hid (PA w 0 p pa) := hP
  clear hT hP
  go_enter Tryd.func27, Tryd.ntmps27
  go_wp2_with fail
  refine (sTypeOk_any _ _ _ _ _ (TA_below T.out ((Ex.new _ _).alloc _))).mono ?_
  rintro e w1 ⟨rfl, hb1⟩
  have hx1 : Ex w w1 := ((Ex.new _ _).alloc _).trans hb1
  have hbx : w1.heap[w.heap.size]? = some (.cells #[.slice a (len f) cap] 32 (0, 0)) := hb1.blk ((Ex.new _ _).blk (heap_alloc_new _ _))
  have hrs : w1.heap[w.heap.size + 1]? = some (.cells #[.slice none 0 0] 32 (0, 0)) := hb1.blk (heap_alloc_at _ _ (by simp))
  have d3 := cell_of_one hrs
  have d4 := free_of_one hrs
  cases hf : fits 4 f
  · have HR : Hid (typeAtR f p = (.nil, false)) := by simp [Hid, typeAtR, hf]
    go_wp2_with fail
    have hres := World.cell?_setCell_same w1 ⟨w.heap.size + 1, 0, none⟩ (.slice none 0 0) d3
    refine bodyPost_ret (v := .tuple #[.agg #[.slice none 0 0], .bool false]) (by simp [results, Tryd.results27, go_sem, hres]) rfl ?_
    rw [HR.out]
    exact ⟨none, 0, rfl, Or.inl rfl, hx1.set (Nat.le_succ _) _⟩
  have HF : Hid (fits 4 f = true) := hf
  clear hf
  go_wp2_with fail
  go_loopw [6] (fun i wr => ∃ (k : Nat) (g : F) (a' : Option Addr) (cap' : Nat), k ≤ p.length ∧ i = .int .i64 k ∧ partF g (p.drop k) = partF f p ∧ TA w lo g a' ∧ (∃ r, r ≤ 4 ∧ fits r g = true) ∧ Ex w wr ∧ wr.heap[w.heap.size]? = some (.cells #[.slice a' (len g) cap'] 32 (0, 0)) ∧ wr.heap[w.heap.size + 1]? = some (.cells #[.slice none 0 0] 32 (0, 0))) (fun i _ => p.length - (intOf i).toNat)
  case atStart => exact ⟨0, f, a, cap, Nat.zero_le _, rfl, rfl, T.out, ⟨4, Nat.le_refl _, HF.out⟩, hx1, hbx, hrs⟩
  case round =>
    obtain ⟨k, g, a', cap', hk, rfl, hpg, hg, ⟨r, hr4, hfr⟩, hx, hbx, hrs⟩ := hrel
    have PG : Hid (partF g (p.drop k) = partF f p) := hpg
    have TG : Hid (TA w lo g a') := hg
    have FG : Hid (fits r g = true) := hfr
    clear hpg hg hfr d3 d4
    have c1 := cell_of_one hbx
    have c2 := free_of_one hbx
    have c3 := cell_of_one hrs
    have c4 := free_of_one hrs
    by_cases hlt : k < p.length
    · obtain ⟨pb, po, rfl, hpb, _, hpc⟩ := PA_at (PA_below P.out hx) (by omega)
      obtain ⟨x, hxe⟩ : ∃ x, x = p.getD k 0 := ⟨_, rfl⟩
      have hck := hpc k hlt
      rw [← hxe] at hck
      have hpd : partF f p = if 0 ≤ x ∧ x < len g then partF (kid g x.toNat) (p.drop (k + 1)) else none := by
        rw [← PG.out, drop_cons p k hlt, ← hxe]; rfl
      have PD : Hid _ := hpd
      have hsz := (fits_sm _ _ FG.out).1
      have KS : Hid (∀ w', Ex wr w' → (Ex wr w' ∧ w'.cell? ⟨w.heap.size, 0, none⟩ = some (.slice a' (len g) cap') ∧ w'.cell? ⟨pb, po + k, none⟩ = some (.int .i64 x))) := fun w' h => ⟨h, Ex.at h c1, Ex.at h hck⟩
      have wr1 : IntKind.i64.wrap ((len g : Int) - 1) = (len g : Int) - 1 := by rw [IntKind.wrap_i64]; omega
      have i0 : (0 : Int) ≤ (k : Int) := by omega
      have i1 : (k : Int) < (p.length : Int) := by omega
      clear hpc hxe hpd
      go_wp2_with fail
      go_region_held3 (fun w' => Ex wr w' ∧ w'.cell? ⟨w.heap.size, 0, none⟩ = some (.slice a' (len g) cap') ∧ w'.cell? ⟨pb, po + k, none⟩ = some (.int .i64 x)) ((refine KS.out _ ?_; first | exact (Ex.refl _).drew | exact Ex.trans (And.left ‹Ex _ _ ∧ _›) ‹Ex _ _›)) (first | (go_at_call 24; refine (l6In_any _ _ _ _).mono ?_; rintro e w2 ⟨rfl, hb2⟩))
      have hx2 : Ex wr w2 := And.left ‹Ex wr w2 ∧ _›
      have hbx2 := hx2.blk hbx
      have hrs2 := hx2.blk hrs
      have hck2 := hx2.at hck
      have hxw : Ex w w2 := hx.trans hx2
      clear c1 c2 c3 c4
      have c1 := cell_of_one hbx2
      have c2 := free_of_one hbx2
      have c3 := cell_of_one hrs2
      have c4 := free_of_one hrs2
      by_cases hxx : 0 ≤ x ∧ x < len g
      · obtain ⟨hx0, hxl⟩ := hxx
        have e0 : decide (0 ≤ x) = true := by simp; omega
        have e1 : decide (x ≤ (len g : Int) - 1) = true := by simp; omega
        obtain ⟨b, o, rfl, hlo, hbs, hkk⟩ := TA_at TG.out (by omega)
        obtain ⟨a3, k3, hc3, ht3⟩ := hkk x.toNat (by omega)
        have hc3' := hxw.at hc3
        have T3 : Hid (TA w lo (kid g x.toNat) a3) := ht3
        clear hkk hc3 ht3
        rw [e0, e1]
        go_wp2_with fail
        go_region
        go_wp2_with fail
        go_roundw
        case rel =>
          exact ⟨k + 1, kid g x.toNat, a3, k3, by omega, by go_num, by rw [PD.out, if_pos ⟨hx0, hxl⟩], T3.out, fits_kid_ex FG.out hr4 _ (by omega), (hxw.set (Nat.le_refl _) _).drew, one_setCell hbx2, (Below.heap_setCell _ _ _ _ (by show w.heap.size + 1 ≠ w.heap.size; omega)).trans hrs2⟩
        case measure => simp [intOf]; omega
      · have HN : Hid (partF f p = none) := by show _ = _; rw [PD.out, if_neg hxx]
        have HR : Hid (typeAtR f p = (.nil, false)) := by simp [Hid, typeAtR, HN.out]
        have fin : ∀ W, W = w2.setCell ⟨w.heap.size + 1, 0, none⟩ (.slice none 0 0) → W.cell? ⟨w.heap.size + 1, 0, none⟩ = some (.slice none 0 0) ∧ Ex w W := fun W hW => by
          subst hW
          exact ⟨World.cell?_setCell_same _ _ _ c3, hxw.set (Nat.le_succ _) _⟩
        have FI : Hid _ := fin
        clear fin
        by_cases hx0 : 0 ≤ x
        · have e0 : decide (0 ≤ x) = true := by simp; omega
          have e1 : decide (x ≤ (len g : Int) - 1) = false := by simp; omega
          rw [e0, e1]
          go_wp2_with fail
          obtain ⟨hres, hxf⟩ := FI.out _ rfl
          refine bodyPost_ret (v := .tuple #[.agg #[.slice none 0 0], .bool false]) (by simp [results, Tryd.results27, go_sem, hres]) rfl ?_
          rw [HR.out]
          first | exact ⟨none, 0, rfl, Or.inl rfl, hxf⟩ | exact ⟨none, ⟨0, rfl⟩, Or.inl rfl, hxf⟩
        · have e0 : decide (0 ≤ x) = false := by simp; omega
          have e1 : decide (x ≤ (len g : Int) - 1) = true := by simp; omega
          rw [e0, e1]
          go_wp2_with fail
          obtain ⟨hres, hxf⟩ := FI.out _ rfl
          refine bodyPost_ret (v := .tuple #[.agg #[.slice none 0 0], .bool false]) (by simp [results, Tryd.results27, go_sem, hres]) rfl ?_
          rw [HR.out]
          first | exact ⟨none, 0, rfl, Or.inl rfl, hxf⟩ | exact ⟨none, ⟨0, rfl⟩, Or.inl rfl, hxf⟩
    · have hd : p.drop k = [] := List.drop_eq_nil_of_le (by omega)
      have hs : partF f p = some g := by rw [← PG.out, hd]; rfl
      have HR : Hid (typeAtR f p = (g, true)) := by simp [Hid, typeAtR, HF.out, hs]
      have hsm := fits_sm _ _ FG.out
      clear hs hd
      go_wp2_with fail
      refine (l1Copy_any (dep g + 1) g a' cap' lo _ (by omega) (by omega) hsm.2 (TA_below TG.out hx)).mono ?_
      rintro e w3 ⟨a3, k3, rfl, ht3, hb3⟩
      have hrs3 := hb3.blk hrs
      have T3 : Hid _ := ht3
      have z3 := lt_of_block hrs
      clear ht3 c1 c2 c3 c4
      have c3 := cell_of_one hrs3
      have c4 := free_of_one hrs3
      go_wp2_with fail
      have hres := World.cell?_setCell_same w3 ⟨w.heap.size + 1, 0, none⟩ (.slice a3 (len g) k3) c3
      refine bodyPost_ret (v := .tuple #[.agg #[.slice a3 (len g) k3], .bool true]) (by simp [results, Tryd.results27, go_sem, hres]) rfl ?_
      rw [HR.out]
      exact ⟨a3, k3, rfl, TA_lo (TA_kp T3.out ((Kp.refl _ _).set (Or.inl (by show w.heap.size + 1 < _; omega)) _)) (by omega), (hx.trans hb3).set (Nat.le_succ _) _⟩

end Go.Proofs.YtldbmlojgakieaaDoor
