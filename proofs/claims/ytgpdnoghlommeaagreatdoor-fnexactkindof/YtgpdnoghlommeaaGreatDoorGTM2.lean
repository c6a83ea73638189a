/- Walks: two types held against each other. Walks: paths drawn. Walks: a type copied by the specification; its part by a path. Walks: names of functions without places, and lists of texts. -/
import Derived.Test.YtgpdnoghlommeaaGreatDoorGD3
import Derived.Deep.LoopGhost
import Derived.Deep.RegionLaw
import Derived.Laws.Strings
namespace Go.Proofs.YtgpdnoghlommeaaGreatDoor

open Go.RowKit Go.Deep

attribute [local go_sem ↓] Go.wp_at_zero Go.wp_at_succ

/-- Two types are the same. -/
def eqT : F → F → Bool
  | .nil, .nil => true
  | .node _ _ _ k r, .node _ _ _ k' r' => eqT k k' && eqT r r'
  | .nil, .node _ _ _ _ _ => false
  | .node _ _ _ _ _, .nil => false

theorem eqT_refl : ∀ f : F, eqT f f = true
  | .nil => rfl
  | .node _ _ _ k r => by simp [eqT, eqT_refl k, eqT_refl r]

theorem eqT_len : ∀ (f g : F), len f ≠ len g → eqT f g = false
  | .nil, .nil, h => by simp [len] at h
  | .node _ _ _ k r, .node _ _ _ k' r', h => by
    have : eqT r r' = false := eqT_len r r' (by simp only [len] at h; omega)
    simp [eqT, this]
  | .nil, .node _ _ _ _ _, _ => rfl
  | .node _ _ _ _ _, .nil, _ => rfl

theorem eqT_bad : ∀ (f g : F) (i : Nat), i < len f → eqT (kid f i) (kid g i) = false → eqT f g = false
  | .nil, _, i, h, _ => by simp [len] at h
  | .node _ _ _ k r, .nil, _, _, _ => rfl
  | .node _ _ _ k r, .node _ _ _ k' r', 0, _, h => by simp only [kid] at h; simp [eqT, h]
  | .node _ _ _ k r, .node _ _ _ k' r', i + 1, hi, h => by
    have := eqT_bad r r' i (by simp only [len] at hi; omega) h
    simp [eqT, this]

theorem eqT_good : ∀ (f g : F), len f = len g → (∀ i, i < len f → eqT (kid f i) (kid g i) = true) → eqT f g = true
  | .nil, .nil, _, _ => rfl
  | .node _ _ _ k r, .node _ _ _ k' r', hl, h => by
    have h0 : eqT k k' = true := h 0 (by simp [len])
    have h1 : eqT r r' = true := eqT_good r r' (by simp only [len] at hl; omega) fun i hi => h (i + 1) (by simp only [len]; omega)
    simp [eqT, h0, h1]
  | .nil, .node _ _ _ _ _, hl, _ => by simp [len] at hl
  | .node _ _ _ _ _, .nil, hl, _ => by simp [len] at hl

end Go.Proofs.YtgpdnoghlommeaaGreatDoor

namespace Go.Proofs.YtgpdnoghlommeaaGreatDoor

open Go.RowKit Go.Deep

attribute [local go_sem ↓] Go.wp_at_zero Go.wp_at_succ

theorem Tryz.info3 : (Tryz.prog.info? 3).map (fun i => (i.zero, i.size, i.bytes)) = some (some (.int .i64 0), 1, 8) := by kernel_rfl

theorem heap_alloc_at (w : World) (o : Obj) {n : Nat} (h : n = w.heap.size) : (w.alloc o).heap[n]? = some o := by subst h; exact heap_alloc_new _ _

/-- Numbers in memory that the call itself has made. -/
abbrev Own (w : World) (base : Nat) (v : Value) (xs : List Int) : Prop := w.ownsRow base 3 1 v xs.length (xs.map (Value.int .i64))

theorem Own.PA {w : World} {base : Nat} {v : Value} {xs : List Int} (h : Own w base v xs) : ∃ pa pc, v = .slice pa xs.length pc ∧ PA w base xs pa ∧ xs.length ≤ pc ∧ pc ≤ 9223372036854775807 ∧ ((pa = none ∧ pc = 0) ∨ ∃ g, pa = some ⟨g, 0, none⟩) := by
  obtain ⟨_, ⟨rfl, h0⟩ | ⟨g, cap, cur, rfl, hg, hgc, hcap, hcm, _, ht⟩⟩ := h
  · exact ⟨none, 0, by rw [h0], Or.inl h0, by omega, by omega, Or.inl ⟨rfl, rfl⟩⟩
  · refine ⟨some ⟨g, 0, none⟩, cap, rfl, Or.inr ⟨g, 0, rfl, hg, fun i hi => ?_⟩, hcap, by unfold maxLen at hcm; omega, Or.inr ⟨g, rfl⟩⟩
    have : (cur.toList.take (xs.length * 1))[i]? = (xs.map (Value.int .i64))[i]? := by rw [ht]
    rw [Nat.mul_one, List.getElem?_take_of_lt hi, List.getElem?_map] at this
    simp [World.cell?, hgc]
    simp at this
    rw [this]
    simp [hi]

theorem Own.keep {w w' : World} {base : Nat} {v : Value} {xs : List Int} (h : Own w base v xs) (hk : Kp base w w') : Own w' base v xs := by
  obtain ⟨h1, h2 | ⟨g, cap, cur, rfl, hg, hgc, r⟩⟩ := h
  · exact ⟨h1, Or.inl h2⟩
  · exact ⟨h1, Or.inr ⟨g, cap, cur, rfl, hg, (hk.block g hg (lt_of_block hgc)).trans hgc, r⟩⟩

theorem Own.lo {w : World} {base base' : Nat} {v : Value} {xs : List Int} (h : Own w base v xs) (hb : base' ≤ base) : Own w base' v xs := by
  obtain ⟨h1, h2 | ⟨g, cap, cur, rfl, hg, r⟩⟩ := h
  · exact ⟨h1, Or.inl h2⟩
  · exact ⟨h1, Or.inr ⟨g, cap, cur, rfl, Nat.le_trans hb hg, r⟩⟩
theorem Own.row {w : World} {base : Nat} {v : Value} {xs : List Int} (h : Own w base v xs) : ∀ k, v.ownBlock = some k → base ≤ k := by
  obtain ⟨_, ⟨rfl, _⟩ | ⟨g, cap, cur, rfl, hg, _⟩⟩ := h
  · intro k hk; cases hk
  · intro k hk; cases hk; exact hg
theorem Fr.below {rb B : Nat} {a b c : World} (h : Fr rb a b) (k : Below B b c) (hB : a.heap.size ≤ B) : Fr rb a c :=
  ⟨k.os.trans h.os, k.tape.trans h.tape, k.output.trans h.output, Nat.le_trans h.size k.size, fun i hi hn => (k.block i (by omega)).trans (h.block i hi hn)⟩

/-- While a region goes on: of W only blocks rb and n have turned, and block n has c cells of type t that may be written. -/
def FC (rb n c : Nat) (t : TypeId) (W w : World) : Prop := (w.os = W.os ∧ w.tape = W.tape ∧ w.output = W.output ∧ W.heap.size ≤ w.heap.size) ∧ (∀ k, k < W.heap.size → k ≠ rb → k ≠ n → w.heap[k]? = W.heap[k]?) ∧ ∃ vs : Array Value, vs.size = c ∧ w.heap[n]? = some (.cells vs t (0, 0))
theorem FC.start {rb n c : Nat} {t : TypeId} {W : World} {vs : Array Value} (h : W.heap[n]? = some (.cells vs t (0, 0))) (hc : vs.size = c) : FC rb n c t W W := ⟨⟨rfl, rfl, rfl, Nat.le_refl _⟩, fun _ _ _ _ => rfl, vs, hc, h⟩
theorem FC.drew {rb n c : Nat} {t : TypeId} {W w : World} (h : FC rb n c t W w) : FC rb n c t W w.drew := h
theorem FC.fr {rb n c : Nat} {t : TypeId} {W w w' : World} (h : FC rb n c t W w) (hf : Fr rb w w') (hn : n ≠ rb) : FC rb n c t W w' := by
  obtain ⟨⟨h1, h2, h3, h4⟩, h5, vs, h6, h7⟩ := h
  exact ⟨⟨hf.os.trans h1, hf.tape.trans h2, hf.output.trans h3, Nat.le_trans h4 hf.size⟩, fun k hk e1 e2 => (hf.block k (Nat.lt_of_lt_of_le hk h4) e1).trans (h5 k hk e1 e2), vs, h6, hf.blk hn h7⟩
theorem FC.ex {rb n c : Nat} {t : TypeId} {W w w' : World} (h : FC rb n c t W w) (hf : Ex w w') (hn : n ≠ rb) : FC rb n c t W w' := h.fr (Fr.of_ex hf _) hn
theorem FC.set {rb n c : Nat} {t : TypeId} {W w : World} (h : FC rb n c t W w) (i : Nat) (v : Value) : FC rb n c t W (w.setCell ⟨n, i, none⟩ v) := by
  obtain ⟨⟨h1, h2, h3, h4⟩, h5, vs, h6, h7⟩ := h
  refine ⟨⟨h1, h2, h3, by rw [World.size_setCell]; exact h4⟩, fun k hk e1 e2 => by rw [Below.heap_setCell _ _ _ _ e2]; exact h5 k hk e1 e2, vs.setIfInBounds i v, by simp [h6], ?_⟩
  simp [World.setCell, Array.getElem?_modify, h7]
theorem FC.cell {rb n c : Nat} {t : TypeId} {W w : World} (h : FC rb n c t W w) (i : Nat) (hi : i < c) : ∃ v, w.cell? ⟨n, i, none⟩ = some v := by
  obtain ⟨_, _, vs, h6, h7⟩ := h
  exact ⟨vs[i]'(by omega), by simp [World.cell?, h7, h6, hi]⟩
theorem FC.frozen {rb n c : Nat} {t : TypeId} {W w : World} (h : FC rb n c t W w) (i : Nat) : w.frozen? ⟨n, i, none⟩ = false := by
  obtain ⟨_, _, vs, h6, h7⟩ := h
  simp [World.frozen?, h7]
theorem FC.at {rb n c : Nat} {t : TypeId} {W w : World} (h : FC rb n c t W w) {p : Addr} {v : Value} (h1 : p.block ≠ rb) (h2 : p.block ≠ n) (hc : W.cell? p = some v) : w.cell? p = some v :=
  (World.cell?_of_block (w := W) (h.2.1 _ (World.block_lt_of_cell? _ _ hc) h1 h2)).trans hc
theorem FC.kp {rb n c lo : Nat} {t : TypeId} {W w : World} (h : FC rb n c t W w) (h1 : rb < lo) (h2 : n < lo) : Kp lo W w := ⟨h.1.2.2.2, fun k hk hk2 => h.2.1 k hk2 (by omega) (by omega)⟩
theorem FC.to_ex {rb n c : Nat} {t : TypeId} {w0 W w : World} (h : FC rb n c t W w) (hx : Ex w0 W) (h1 : w0.heap.size ≤ rb) (h2 : w0.heap.size ≤ n) : Ex w0 w :=
  ⟨h.1.1.trans hx.os, h.1.2.1.trans hx.tape, h.1.2.2.1.trans hx.output, Nat.le_trans hx.size h.1.2.2.2, fun k hk => (h.2.1 k (Nat.lt_of_lt_of_le hk hx.size) (by omega) (by omega)).trans (hx.block k hk)⟩

end Go.Proofs.YtgpdnoghlommeaaGreatDoor

namespace Go.Proofs.YtgpdnoghlommeaaGreatDoor

open Go.RowKit Go.Deep

attribute [local go_sem ↓] Go.wp_at_zero Go.wp_at_succ

theorem l6In_any (n lo hi : Int) (w : World) : Calls Tryz.prog 132 #[.int .i64 n, .int .i64 lo, .int .i64 hi] w fun e w' => e = .returned (.bool (decide (lo ≤ n ∧ n ≤ hi))) ∧ Ex w w' := by
  by_cases h : lo ≤ n
  · have e0 : decide (lo ≤ n) = true := by simp [h]
    go_enter Tryz.func132, Tryz.ntmps132
    go_wp2_with fail
    go_ret
    exact ⟨ret_b (by simp [h]), Ex.refl _⟩
  · have e0 : decide (lo ≤ n) = false := by simp; omega
    go_enter Tryz.func132, Tryz.ntmps132
    go_wp2_with fail
    go_ret
    exact ⟨ret_b (by simp), Ex.refl _⟩

theorem owns_ex {w w' : World} {base : Nat} {e : TypeId} {size : Nat} {v : Value} {n : Nat} {xs : List Value} (h : w.ownsRow base e size v n xs) (hx : Ex w w') : w'.ownsRow base e size v n xs := by
  obtain ⟨h1, h2 | ⟨g, cap, cur, rfl, hg, hgc, r⟩⟩ := h
  · exact ⟨h1, Or.inl h2⟩
  · exact ⟨h1, Or.inr ⟨g, cap, cur, rfl, hg, hx.blk hgc, r⟩⟩
theorem owns_row {w : World} {base : Nat} {e : TypeId} {size : Nat} {v : Value} {n : Nat} {xs : List Value} (h : w.ownsRow base e size v n xs) : ∀ k, v.ownBlock = some k → base ≤ k := by
  obtain ⟨_, ⟨rfl, _⟩ | ⟨g, cap, cur, rfl, hg, _⟩⟩ := h
  · intro k hk; cases hk
  · intro k hk; cases hk; exact hg
theorem grown_blk {w w' : World} {v : Value} {base n : Nat} {o o' : Obj} (h : (w.alloc o').grownBy w' v.ownBlock) (hr : ∀ k, v.ownBlock = some k → base ≤ k) (hn : n < base) (hb : w.heap[n]? = some o) : w'.heap[n]? = some o := by
  have hlt := lt_of_block hb
  exact (h.block n (by rw [World.size_alloc]; omega) (fun e => by have := hr n e.symm; omega)).trans ((Ex.new _ _).blk hb)

theorem Ex.grown {a b c : World} {v : Value} {base : Nat} {o : Obj} (h : Ex a b) (hg : (b.alloc o).grownBy c v.ownBlock) (hr : ∀ k, v.ownBlock = some k → base ≤ k) (hb : a.heap.size ≤ base) : Ex a c :=
  ⟨hg.os.trans h.os, hg.tape.trans h.tape, hg.output.trans h.output, Nat.le_trans (h.alloc o).size hg.size, fun k hk => (hg.block k (Nat.lt_of_lt_of_le hk (h.alloc o).size) (fun e => by have := hr k e.symm; omega)).trans ((h.alloc o).block k hk)⟩

theorem kids_step {wr w1 w2 : World} {base k gg cap k2 out : Nat} {e : TypeId} {v u : Value} {cs : List Value} {f : F} {a2 : Option Addr} {o' : Obj}
    (O : wr.ownsRow base e 1 v k cs) (hb2 : Ex wr w1) (hgrow : (w1.alloc o').grownBy w2 v.ownBlock) (hat : v.ownBlock = some gg ∨ gg = w1.heap.size + 1) (hout : out < base)
    (KI : ∀ j, j < k → ∃ a' c', cs[j]? = some (.slice a' (len (kid f j)) c') ∧ SA wr (fun b => base ≤ b ∧ v.ownBlock ≠ some b) (kid f j) a')
    (ht2 : TA w1 wr.heap.size (kid f k) a2) (hbase : base ≤ wr.heap.size) :
    ∀ j, j < k + 1 → ∃ a' c', (cs ++ [Value.slice a2 (len (kid f k)) k2])[j]? = some (.slice a' (len (kid f j)) c') ∧ SA (w2.setCell ⟨out, 0, none⟩ u) (fun b => base ≤ b ∧ (Value.slice (some ⟨gg, 0, none⟩) (k + 1) cap).ownBlock ≠ some b) (kid f j) a' := by
  have hcs : cs.length = k := by have := O.1; omega
  have hvb : ∀ g, v.ownBlock = some g → g < wr.heap.size := by
    obtain ⟨_, ⟨rfl, _⟩ | ⟨g, c, cur, rfl, hg, hgc, _⟩⟩ := O
    · intro g hg; cases hg
    · intro g' hg'; cases hg'; exact lt_of_block hgc
  have move : ∀ (g : F) (a' : Option Addr), SA w1 (fun b => base ≤ b ∧ v.ownBlock ≠ some b) g a' → SA (w2.setCell ⟨out, 0, none⟩ u) (fun b => base ≤ b ∧ (Value.slice (some ⟨gg, 0, none⟩) (k + 1) cap).ownBlock ≠ some b) g a' := by
    intro g a' h
    have h1 := SA_mono (S' := fun b => base ≤ b ∧ v.ownBlock ≠ some b ∧ b < w1.heap.size) h fun b hb hs => ⟨hs.1, hs.2, hb⟩
    have h2 : SA w2 (fun b => base ≤ b ∧ v.ownBlock ≠ some b ∧ b < w1.heap.size) g a' := SA_ks h1 fun b hs hlt => (hgrow.block b (by rw [World.size_alloc]; omega) (fun e => hs.2.1 e.symm)).trans ((Ex.new _ _).block b hlt)
    have h3 : SA (w2.setCell ⟨out, 0, none⟩ u) (fun b => base ≤ b ∧ v.ownBlock ≠ some b ∧ b < w1.heap.size) g a' := SA_ks h2 fun b hs _ => Below.heap_setCell _ _ _ _ (by show b ≠ out; omega)
    refine SA_mono h3 fun b _ hs => ⟨hs.1, fun e => ?_⟩
    have e' : gg = b := by simpa [Value.ownBlock] using e
    rcases hat with h | h
    · exact hs.2.1 (by rw [h, e'])
    · have := hs.2.2; omega
  intro j hj
  by_cases h : j < k
  · obtain ⟨a', c', h1, h2⟩ := KI j h
    exact ⟨a', c', by rw [List.getElem?_append_left (by omega)]; exact h1, move _ _ (SA_ks h2 fun b _ hlt => hb2.block b hlt)⟩
  · have e : j = k := by omega
    subst e
    refine ⟨a2, k2, by rw [List.getElem?_append_right (by omega)]; simp [hcs], move _ _ (SA_mono ht2 fun b _ hb => ⟨Nat.le_trans hbase hb, fun e => by have := hvb b e; omega⟩)⟩

set_option maxRecDepth 100000 in
set_option maxHeartbeats 4000000 in
theorem l1Copy_any : ∀ (d : Nat) (f : F) (a : Option Addr) (c lo : Nat) (w : World), dep f < d → len f ≤ 1000000000 → Sm f → TA w lo f a →
    Calls Tryz.prog 25 #[.agg #[.slice a (len f) c]] w fun e w' => ∃ a' c', e = .returned (.agg #[.slice a' (len f) c']) ∧ TA w' w.heap.size f a' ∧ Ex w w' := by
  intro d
  induction d with
  | zero => intro f a c lo w hd; omega
  | succ d ih =>
    intro f a c lo w hd hl hs hT
    have T : Hid (TA w lo f a) := hT
    have I : Hid _ := ih
    have SS : Hid (Sm f) := hs
    obtain ⟨i0, hi, hz0, hz1, hz2⟩ := info_parts Tryz.info55
    clear hT ih hs
    go_enter Tryz.func25, Tryz.ntmps25
    go_wp2_with fail
    go_loopw [4] (fun i wr => ∃ (k : Nat) (v : Value) (cs : List Value), k ≤ len f ∧ i = .int .i64 k ∧ Ex (w.alloc (.cells #[.slice a (len f) c] 55)) wr ∧ wr.heap[w.heap.size + 1]? = some (.cells #[.slice none 0 0] 55 (0, 0)) ∧ wr.heap[w.heap.size + 2]? = some (.cells #[v] 55 (0, 0)) ∧ wr.ownsRow (w.heap.size + 3) 55 1 v k cs ∧ (∀ j, j < k → ∃ a' c', cs[j]? = some (.slice a' (len (kid f j)) c') ∧ SA wr (fun b => w.heap.size + 3 ≤ b ∧ v.ownBlock ≠ some b) (kid f j) a')) (fun i _ => len f - (intOf i).toNat)
    case atStart =>
      refine ⟨0, .slice none 0 0, [], Nat.zero_le _, rfl, (Ex.new _ _).alloc _, ?_, ?_, World.ownsRow_nil _ _ _ _, fun j hj => by omega⟩
      · exact (Ex.new _ _).blk (heap_alloc_at _ _ (by simp))
      · exact heap_alloc_at _ _ (by simp)
    case round =>
      obtain ⟨k, v, cs, hk, rfl, hx, hrb, hob, hown, hkids⟩ := hrel
      have hbx : wr.cell? ⟨w.heap.size, 0, none⟩ = some (.slice a (len f) c) := Ex.at hx (World.cell?_alloc_new _ _ _ _)
      have hw : Ex w wr := (Ex.new _ _).trans hx
      have O : Hid (wr.ownsRow (w.heap.size + 3) 55 1 v k cs) := hown
      have KI : Hid _ := hkids
      have c1 := cell_of_one hob
      have c2 := free_of_one hob
      have c3 := cell_of_one hrb
      have c4 := free_of_one hrb
      clear hown hkids
      by_cases hlt : k < len f
      · obtain ⟨b, o, rfl, hlo, hbs, hkk⟩ := TA_at (TA_below T.out hw) (by omega)
        obtain ⟨a1, k1, hc1, ht1⟩ := hkk k hlt
        have IK : Hid (∀ w', Ex wr w' → Calls Tryz.prog 25 #[.agg #[.slice a1 (len (kid f k)) k1]] w' fun e w'' => ∃ a' c', e = .returned (.agg #[.slice a' (len (kid f k)) c']) ∧ TA w'' w'.heap.size (kid f k) a' ∧ Ex w' w'') := fun w' h =>
          I.out (kid f k) a1 k1 lo w' (by have := dep_kid f k hlt; omega) (Sm_kid SS.out k hlt).1 (Sm_kid SS.out k hlt).2 (TA_below ht1 h)
        have i1 : (0 : Int) ≤ (k : Int) := by omega
        have i2 : (k : Int) < (len f : Int) := by omega
        clear hkk ht1
        have z0 : w.heap.size + 2 < wr.heap.size := lt_of_block hob
        go_wp2_with fail
        go_region_law (first
          | (refine step_append_lies _ (by rfl) _ _ _ (by rfl) (w.heap.size + 3) 55 i0 _ 1 24 Tryz.underlying26 hi hz0 hz1 hz2 rfl (by omega) v k cs (by rfl) (World.ownsRow.alloc O1.out _) ⟨w1.heap.size, 0, none⟩ 1 1 [.slice a2 (len (kid f k)) k2] (by rfl) (by rfl) (World.news_of_block (cs := #[.slice a2 (len (kid f k)) k2]) (t := 55) (fr := (0, 0)) (heap_alloc_new w1 _)) (by simp [Value.oneCell']) (by omega) (by unfold maxLen; omega) (by omega) (by rw [World.size_alloc]; omega) (w1.heap.size + 1) (by simp) ?_; intro gg cap w2 hown2 hgrow hat hlt2; have p1 := cell_of_one (grown_blk hgrow (owns_row O1.out) (by omega) hob1); have p2 := free_of_one (grown_blk hgrow (owns_row O1.out) (by omega) hob1))
          | (rw [if_pos (by rfl)]; go_simp; go_at_call 25; refine (IK.out _ (Ex.refl _).drew).mono ?_; rintro e w1 ⟨a2, k2, rfl, ht2, hb2'⟩; have hb2 : Ex wr w1 := Ex.trans (Ex.drew (Ex.refl _)) hb2'; have q1 := Ex.at hb2 hbx; have q2 := Ex.at hb2 c1; have q3 := Ex.at hb2 hc1; have hob1 := hb2.blk hob; have O1 : Hid (w1.ownsRow (w.heap.size + 3) 55 1 v k cs) := owns_ex O.out hb2; have z1 := hb2.size; have z2 : w.heap.size + 2 < w1.heap.size := by omega))
        all_goals
          have KS := kids_step (out := w.heap.size + 2) (u := .slice (some ⟨gg, 0, none⟩) (k + 1) cap) (cap := cap) (k2 := k2) O.out hb2 hgrow hat (by omega) KI.out ht2 (by omega)
          have KS2 : Hid _ := KS
          have hob2 := grown_blk hgrow (owns_row O1.out) (by omega) hob1
          have hrb2 := grown_blk hgrow (owns_row O1.out) (by omega) (hb2.blk hrb)
          have HX : Hid (Ex (w.alloc (.cells #[.slice (some ⟨b, o, none⟩) (len f) c] 55)) w2) := (hx.trans hb2).grown hgrow (owns_row O1.out) (by rw [World.size_alloc]; omega)
          have HO : Hid _ := hown2
          clear KS hgrow hown2
          go_wp2_with fail
          go_roundw
          case rel =>
            refine ⟨k + 1, .slice (some ⟨gg, 0, none⟩) (k + 1) cap, cs ++ [.slice a2 (len (kid f k)) k2], by omega, by go_num, HX.out.set ?_ _, ?_, one_setCell hob2, ownsRow_setCell_below HO.out ?_ _, KS2.out⟩
            · rw [World.size_alloc]; show w.heap.size + 1 ≤ w.heap.size + 2; omega
            · rw [Below.heap_setCell _ _ _ _ (by show w.heap.size + 1 ≠ w.heap.size + 2; omega)]; exact hrb2
            · show w.heap.size + 2 < w.heap.size + 3; omega
          case measure => simp [intOf]; omega
      · have hke : k = len f := by omega
        obtain ⟨hcl, ⟨hv, h0⟩ | ⟨g, cap, cur, hv, hg, hgc, _, _, _, htk⟩⟩ := O.out
        · subst hv
          have HK : Hid (len f = 0) := by show _ = _; omega
          clear hke h0
          go_wp2_with fail
          have hres := World.cell?_setCell_same wr ⟨w.heap.size + 1, 0, none⟩ (.slice none 0 0) c3
          exact bodyPost_ret (v := .agg #[.slice none 0 0]) (by simp [results, Tryz.results25, go_sem, hres]) rfl ⟨none, 0, by rw [HK.out], Or.inl HK.out, hw.set (by show w.heap.size ≤ w.heap.size + 1; omega) _⟩
        · subst hv
          have HK : Hid (k = len f) := hke
          have TK : Hid _ := htk
          have HG : Hid _ := hgc
          clear hke htk hgc
          go_wp2_with fail
          have hres := World.cell?_setCell_same wr ⟨w.heap.size + 1, 0, none⟩ (.slice (some ⟨g, 0, none⟩) k cap) c3
          refine bodyPost_ret (v := .agg #[.slice (some ⟨g, 0, none⟩) k cap]) (by simp [results, Tryz.results25, go_sem, hres]) rfl ⟨some ⟨g, 0, none⟩, cap, by rw [HK.out], ?_, hw.set (by show w.heap.size ≤ w.heap.size + 1; omega) _⟩
          refine SA_mk (by omega) fun i hi => ?_
          obtain ⟨a', c', h1, h2⟩ := KI.out i (by have := HK.out; omega)
          refine ⟨a', c', ?_, ?_⟩
          · rw [World.cell?_setCell_other _ _ _ _ (fun e => absurd (congrArg Addr.block e) (by show w.heap.size + 1 ≠ g; omega))]
            have ht := TK.out
            rw [Nat.mul_one] at ht
            rw [← ht, List.getElem?_take_of_lt (by have := HK.out; omega)] at h1
            have hgg := HG.out
            simp [World.cell?, hgg] at h1 ⊢
            exact h1
          · exact SA_mono (SA_ks h2 fun b hb _ => Below.heap_setCell _ _ _ _ (by show b ≠ w.heap.size + 1; omega)) fun b _ hb => by omega

theorem fits_kid_ex {r : Nat} {g : F} (h : fits r g = true) (hr : r ≤ 4) (i : Nat) (hi : i < len g) : ∃ r', r' ≤ 4 ∧ fits r' (kid g i) = true := by
  cases r with
  | zero => simp [fits] at h
  | succ r =>
    have h2 : len g = 2 := by have := fits_len h; omega
    rw [fits_two h2, Bool.and_eq_true] at h
    have : i = 0 ∨ i = 1 := by omega
    rcases this with rfl | rfl
    · exact ⟨r, by omega, h.1⟩
    · exact ⟨r, by omega, h.2⟩

set_option maxRecDepth 100000 in
set_option maxHeartbeats 4000000 in
theorem sTypeAt_any (f : F) (p : List Int) (a : Option Addr) (cap : Nat) (pa : Option Addr) (pc : Nat) (lo : Nat) (w : World) (hp : p.length ≤ 1000000000) (hT : TA w lo f a) (hP : PA w 0 p pa) :
    Calls Tryz.prog 107 #[.agg #[.slice a (len f) cap], .slice pa p.length pc] w fun e w' =>
      ∃ a' cap', e = .returned (.tuple #[.agg #[.slice a' (len (typeAtR f p).1) cap'], .bool (typeAtR f p).2]) ∧ TA w' w.heap.size (typeAtR f p).1 a' ∧ Ex w w' := by
  have T : Hid (TA w lo f a) := hT
  have P : Hid (PA w 0 p pa) := hP
  clear hT hP
  go_enter Tryz.func107, Tryz.ntmps107
  go_wp2_with fail
  refine (sTypeOk_any _ _ _ _ _ (TA_below T.out ((Ex.new _ _).alloc _))).mono ?_
  rintro e w1 ⟨rfl, hb1⟩
  have hx1 : Ex w w1 := ((Ex.new _ _).alloc _).trans hb1
  have hbx : w1.heap[w.heap.size]? = some (.cells #[.slice a (len f) cap] 55 (0, 0)) := hb1.blk ((Ex.new _ _).blk (heap_alloc_new _ _))
  have hrs : w1.heap[w.heap.size + 1]? = some (.cells #[.slice none 0 0] 55 (0, 0)) := hb1.blk (heap_alloc_at _ _ (by simp))
  have d3 := cell_of_one hrs
  have d4 := free_of_one hrs
  cases hf : fits 4 f
  · have HR : Hid (typeAtR f p = (.nil, false)) := by simp [Hid, typeAtR, hf]
    go_wp2_with fail
    have hres := World.cell?_setCell_same w1 ⟨w.heap.size + 1, 0, none⟩ (.slice none 0 0) d3
    refine bodyPost_ret (v := .tuple #[.agg #[.slice none 0 0], .bool false]) (by simp [results, Tryz.results107, go_sem, hres]) rfl ?_
    rw [HR.out]
    exact ⟨none, 0, rfl, Or.inl rfl, hx1.set (Nat.le_succ _) _⟩
  have HF : Hid (fits 4 f = true) := hf
  clear hf
  go_wp2_with fail
  go_loopw [6] (fun i wr => ∃ (k : Nat) (g : F) (a' : Option Addr) (cap' : Nat), k ≤ p.length ∧ i = .int .i64 k ∧ partF g (p.drop k) = partF f p ∧ TA w lo g a' ∧ (∃ r, r ≤ 4 ∧ fits r g = true) ∧ Ex w wr ∧ wr.heap[w.heap.size]? = some (.cells #[.slice a' (len g) cap'] 55 (0, 0)) ∧ wr.heap[w.heap.size + 1]? = some (.cells #[.slice none 0 0] 55 (0, 0))) (fun i _ => p.length - (intOf i).toNat)
  case atStart => exact ⟨0, f, a, cap, Nat.zero_le _, rfl, rfl, T.out, ⟨4, Nat.le_refl _, HF.out⟩, hx1, hbx, hrs⟩
  case round =>
    obtain ⟨k, g, a', cap', hk, rfl, hpg, hg, ⟨r, hr4, hfr⟩, hx, hbx, hrs⟩ := hrel
    have PG : Hid (partF g (p.drop k) = partF f p) := hpg
    have TG : Hid (TA w lo g a') := hg
    have FG : Hid (fits r g = true) := hfr
    clear hpg hg hfr d3 d4
    have c1 := cell_of_one hbx
    have c2 := free_of_one hbx
    have c3 := cell_of_one hrs
    have c4 := free_of_one hrs
    by_cases hlt : k < p.length
    · obtain ⟨pb, po, rfl, hpb, _, hpc⟩ := PA_at (PA_below P.out hx) (by omega)
      obtain ⟨x, hxe⟩ : ∃ x, x = p.getD k 0 := ⟨_, rfl⟩
      have hck := hpc k hlt
      rw [← hxe] at hck
      have hpd : partF f p = if 0 ≤ x ∧ x < len g then partF (kid g x.toNat) (p.drop (k + 1)) else none := by
        rw [← PG.out, drop_cons p k hlt, ← hxe]; rfl
      have PD : Hid _ := hpd
      have hsz := (fits_sm _ _ FG.out).1
      have KS : Hid (∀ w', Ex wr w' → (Ex wr w' ∧ w'.cell? ⟨w.heap.size, 0, none⟩ = some (.slice a' (len g) cap') ∧ w'.cell? ⟨pb, po + k, none⟩ = some (.int .i64 x))) := fun w' h => ⟨h, Ex.at h c1, Ex.at h hck⟩
      have wr1 : IntKind.i64.wrap ((len g : Int) - 1) = (len g : Int) - 1 := by rw [IntKind.wrap_i64]; omega
      have i0 : (0 : Int) ≤ (k : Int) := by omega
      have i1 : (k : Int) < (p.length : Int) := by omega
      clear hpc hxe hpd
      go_wp2_with fail
      go_region_held3 (fun w' => Ex wr w' ∧ w'.cell? ⟨w.heap.size, 0, none⟩ = some (.slice a' (len g) cap') ∧ w'.cell? ⟨pb, po + k, none⟩ = some (.int .i64 x)) ((refine KS.out _ ?_; first | exact (Ex.refl _).drew | exact Ex.trans (And.left ‹Ex _ _ ∧ _›) ‹Ex _ _›)) (first | (go_at_call 132; refine (l6In_any _ _ _ _).mono ?_; rintro e w2 ⟨rfl, hb2⟩))
      have hx2 : Ex wr w2 := And.left ‹Ex wr w2 ∧ _›
      have hbx2 := hx2.blk hbx
      have hrs2 := hx2.blk hrs
      have hck2 := hx2.at hck
      have hxw : Ex w w2 := hx.trans hx2
      clear c1 c2 c3 c4
      have c1 := cell_of_one hbx2
      have c2 := free_of_one hbx2
      have c3 := cell_of_one hrs2
      have c4 := free_of_one hrs2
      by_cases hxx : 0 ≤ x ∧ x < len g
      · obtain ⟨hx0, hxl⟩ := hxx
        have e0 : decide (0 ≤ x) = true := by simp; omega
        have e1 : decide (x ≤ (len g : Int) - 1) = true := by simp; omega
        obtain ⟨b, o, rfl, hlo, hbs, hkk⟩ := TA_at TG.out (by omega)
        obtain ⟨a3, k3, hc3, ht3⟩ := hkk x.toNat (by omega)
        have hc3' := hxw.at hc3
        have T3 : Hid (TA w lo (kid g x.toNat) a3) := ht3
        clear hkk hc3 ht3
        rw [e0, e1]
        go_wp2_with fail
        go_region
        go_wp2_with fail
        go_roundw
        case rel =>
          exact ⟨k + 1, kid g x.toNat, a3, k3, by omega, by go_num, by rw [PD.out, if_pos ⟨hx0, hxl⟩], T3.out, fits_kid_ex FG.out hr4 _ (by omega), (hxw.set (Nat.le_refl _) _).drew, one_setCell hbx2, (Below.heap_setCell _ _ _ _ (by show w.heap.size + 1 ≠ w.heap.size; omega)).trans hrs2⟩
        case measure => simp [intOf]; omega
      · have HN : Hid (partF f p = none) := by show _ = _; rw [PD.out, if_neg hxx]
        have HR : Hid (typeAtR f p = (.nil, false)) := by simp [Hid, typeAtR, HN.out]
        have fin : ∀ W, W = w2.setCell ⟨w.heap.size + 1, 0, none⟩ (.slice none 0 0) → W.cell? ⟨w.heap.size + 1, 0, none⟩ = some (.slice none 0 0) ∧ Ex w W := fun W hW => by
          subst hW
          exact ⟨World.cell?_setCell_same _ _ _ c3, hxw.set (Nat.le_succ _) _⟩
        have FI : Hid _ := fin
        clear fin
        by_cases hx0 : 0 ≤ x
        · have e0 : decide (0 ≤ x) = true := by simp; omega
          have e1 : decide (x ≤ (len g : Int) - 1) = false := by simp; omega
          rw [e0, e1]
          go_wp2_with fail
          obtain ⟨hres, hxf⟩ := FI.out _ rfl
          refine bodyPost_ret (v := .tuple #[.agg #[.slice none 0 0], .bool false]) (by simp [results, Tryz.results107, go_sem, hres]) rfl ?_
          rw [HR.out]
          first | exact ⟨none, 0, rfl, Or.inl rfl, hxf⟩ | exact ⟨none, ⟨0, rfl⟩, Or.inl rfl, hxf⟩
        · have e0 : decide (0 ≤ x) = false := by simp; omega
          have e1 : decide (x ≤ (len g : Int) - 1) = true := by simp; omega
          rw [e0, e1]
          go_wp2_with fail
          obtain ⟨hres, hxf⟩ := FI.out _ rfl
          refine bodyPost_ret (v := .tuple #[.agg #[.slice none 0 0], .bool false]) (by simp [results, Tryz.results107, go_sem, hres]) rfl ?_
          rw [HR.out]
          first | exact ⟨none, 0, rfl, Or.inl rfl, hxf⟩ | exact ⟨none, ⟨0, rfl⟩, Or.inl rfl, hxf⟩
    · have hd : p.drop k = [] := List.drop_eq_nil_of_le (by omega)
      have hs : partF f p = some g := by rw [← PG.out, hd]; rfl
      have HR : Hid (typeAtR f p = (g, true)) := by simp [Hid, typeAtR, HF.out, hs]
      have hsm := fits_sm _ _ FG.out
      clear hs hd
      go_wp2_with fail
      refine (l1Copy_any (dep g + 1) g a' cap' lo _ (by omega) (by omega) hsm.2 (TA_below TG.out hx)).mono ?_
      rintro e w3 ⟨a3, k3, rfl, ht3, hb3⟩
      have hrs3 := hb3.blk hrs
      have T3 : Hid _ := ht3
      have z3 := lt_of_block hrs
      clear ht3 c1 c2 c3 c4
      have c3 := cell_of_one hrs3
      have c4 := free_of_one hrs3
      go_wp2_with fail
      have hres := World.cell?_setCell_same w3 ⟨w.heap.size + 1, 0, none⟩ (.slice a3 (len g) k3) c3
      refine bodyPost_ret (v := .tuple #[.agg #[.slice a3 (len g) k3], .bool true]) (by simp [results, Tryz.results107, go_sem, hres]) rfl ?_
      rw [HR.out]
      exact ⟨a3, k3, rfl, TA_lo (TA_kp T3.out ((Kp.refl _ _).set (Or.inl (by show w.heap.size + 1 < _; omega)) _)) (by omega), (hx.trans hb3).set (Nat.le_succ _) _⟩

end Go.Proofs.YtgpdnoghlommeaaGreatDoor

namespace Go.Proofs.YtgpdnoghlommeaaGreatDoor

open Go.RowKit Go.Deep

attribute [local go_sem ↓] Go.wp_at_zero Go.wp_at_succ

/-- A byte of a text. -/
def wbt (s : ByteArray) (i : Nat) : Nat := (s.data.toList.getD i 0).toNat
theorem wbt_at (s : ByteArray) (i : Nat) (h : i < s.size) : (s[i]'h).toNat = wbt s i := by
  obtain ⟨⟨l⟩⟩ := s
  have hl : i < l.length := h
  show ((ByteArray.mk ⟨l⟩)[i]'hl).toNat = (l.getD i 0).toNat
  simp only [List.getD, List.getElem?_eq_getElem hl, Option.getD_some]
  rfl

def wletter (n : Nat) : Bool := decide (97 ≤ n ∧ n ≤ 122 ∨ 65 ≤ n ∧ n ≤ 90 ∨ 48 ≤ n ∧ n ≤ 57 ∨ n = 95)
/-- 1 to 12 letters, figures and underscores. -/
def wordB (s : ByteArray) : Bool := decide (1 ≤ s.size) && decide (s.size ≤ 12) && (List.range s.size).all fun i => wletter (wbt s i)

theorem wordB_no {s : ByteArray} {i : Nat} (h : i < s.size) (hb : wletter (wbt s i) = false) : wordB s = false := by
  cases hn : wordB s with
  | false => rfl
  | true =>
    simp only [wordB, Bool.and_eq_true, List.all_eq_true, List.mem_range] at hn
    rw [hn.2 i h] at hb; cases hb
theorem wordB_yes {s : ByteArray} (h1 : 1 ≤ s.size) (h2 : s.size ≤ 12) (h : ∀ i, i < s.size → wletter (wbt s i) = true) : wordB s = true := by
  simp only [wordB, Bool.and_eq_true, List.all_eq_true, List.mem_range, decide_eq_true_eq]
  exact ⟨⟨h1, h2⟩, h⟩
theorem wordB_size {s : ByteArray} (h : s.size < 1 ∨ 12 < s.size) : wordB s = false := by
  simp only [wordB]
  rcases h with h | h
  · simp [show ¬ 1 ≤ s.size by omega]
  · simp [show ¬ s.size ≤ 12 by omega]

theorem upto_succ {P : Nat → Prop} {k : Nat} (h : ∀ j, j < k → P j) (hk : P k) : ∀ j, j < k + 1 → P j := fun j hj => by
  rcases Nat.lt_or_eq_of_le (Nat.le_of_lt_succ hj) with h1 | h1
  · exact h j h1
  · exact h1 ▸ hk

theorem byte_class (n : Nat) : n < 48 ∨ (48 ≤ n ∧ n ≤ 57) ∨ (58 ≤ n ∧ n ≤ 64) ∨ (65 ≤ n ∧ n ≤ 90) ∨ (91 ≤ n ∧ n ≤ 94) ∨ n = 95 ∨ n = 96 ∨ (97 ≤ n ∧ n ≤ 122) ∨ 123 ≤ n := by omega

set_option maxHeartbeats 2000000 in
theorem l12Word_any (s : ByteArray) (w : World) : Calls Tryz.prog 49 #[.string s] w fun e w' => e = .returned (.bool (wordB s)) ∧ Ex w w' := by
  by_cases h1 : s.size < 1
  · have HR : Hid (wordB s = false) := wordB_size (Or.inl h1)
    have d1 : decide ((s.size : Int) < 1) = true := by simp; omega
    go_enter Tryz.func49, Tryz.ntmps49
    go_wp2_with fail
    go_ret
    exact ⟨ret_b HR.out.symm, Ex.refl _⟩
  by_cases h6 : 12 < s.size
  · have HR : Hid (wordB s = false) := wordB_size (Or.inr h6)
    have d1 : decide ((s.size : Int) < 1) = false := by simp; omega
    have d2 : decide ((12 : Int) < (s.size : Int)) = true := by simp; omega
    go_enter Tryz.func49, Tryz.ntmps49
    go_wp2_with fail
    go_ret
    exact ⟨ret_b HR.out.symm, Ex.refl _⟩
  have d1 : decide ((s.size : Int) < 1) = false := by simp; omega
  have d2 : decide ((12 : Int) < (s.size : Int)) = false := by simp; omega
  go_enter Tryz.func49, Tryz.ntmps49
  go_wp2_with fail
  go_loopw [3] (fun i wr => ∃ (k : Nat), k ≤ s.size ∧ i = .int .i64 k ∧ (∀ j, j < k → wletter (wbt s j) = true) ∧ Ex w wr) (fun i _ => s.size - (intOf i).toNat)
  case atStart => exact ⟨0, by omega, rfl, fun j hj => by omega, Ex.refl _⟩
  case round =>
    obtain ⟨k, hk, rfl, hall, hx⟩ := hrel
    have A : Hid (∀ j, j < k → wletter (wbt s j) = true) := hall
    have X : Hid (Ex w wr) := hx
    clear hall hx
    by_cases hlt : k < s.size
    · have hb := wbt_at s k hlt
      have N : Hid (wletter (wbt s k) = false → wordB s = false) := wordB_no hlt
      have U : Hid (wletter (wbt s k) = true → ∀ j, j < k + 1 → wletter (wbt s j) = true) := fun h => upto_succ A.out h
      obtain ⟨n, hn⟩ : ∃ n, wbt s k = n := ⟨_, rfl⟩
      rw [hn] at hb N U
      clear hn
      rcases byte_class n with h | h | h | h | h | h | h | h | h
      · have w1 : decide (((s[k]'hlt).toNat : Int) < 97) = true := by rw [hb]; simp; omega
        have w2 : decide ((122 : Int) < ((s[k]'hlt).toNat : Int)) = false := by rw [hb]; simp; omega
        have w3 : decide (((s[k]'hlt).toNat : Int) < 65) = true := by rw [hb]; simp; omega
        have w4 : decide ((90 : Int) < ((s[k]'hlt).toNat : Int)) = false := by rw [hb]; simp; omega
        have w5 : decide (((s[k]'hlt).toNat : Int) < 48) = true := by rw [hb]; simp; omega
        have w6 : decide ((57 : Int) < ((s[k]'hlt).toNat : Int)) = false := by rw [hb]; simp; omega
        have w7 : (((s[k]'hlt).toNat : Int) != 95) = true := by rw [hb]; simp; omega
        have L : Hid (wletter n = false) := by show wletter n = _; simp [wletter]; omega
        clear hb h
        go_wp2_with fail
        go_ret
        exact ⟨ret_b (N.out L.out).symm, X.out⟩
      · have w1 : decide (((s[k]'hlt).toNat : Int) < 97) = true := by rw [hb]; simp; omega
        have w2 : decide ((122 : Int) < ((s[k]'hlt).toNat : Int)) = false := by rw [hb]; simp; omega
        have w3 : decide (((s[k]'hlt).toNat : Int) < 65) = true := by rw [hb]; simp; omega
        have w4 : decide ((90 : Int) < ((s[k]'hlt).toNat : Int)) = false := by rw [hb]; simp; omega
        have w5 : decide (((s[k]'hlt).toNat : Int) < 48) = false := by rw [hb]; simp; omega
        have w6 : decide ((57 : Int) < ((s[k]'hlt).toNat : Int)) = false := by rw [hb]; simp; omega
        have w7 : (((s[k]'hlt).toNat : Int) != 95) = true := by rw [hb]; simp; omega
        have L : Hid (wletter n = true) := by show wletter n = _; simp [wletter]; omega
        clear hb h
        go_wp2_with fail
        go_roundw
        case rel => exact ⟨k + 1, by omega, by go_num, U.out L.out, X.out⟩
        case measure => simp [intOf]; omega
      · have w1 : decide (((s[k]'hlt).toNat : Int) < 97) = true := by rw [hb]; simp; omega
        have w2 : decide ((122 : Int) < ((s[k]'hlt).toNat : Int)) = false := by rw [hb]; simp; omega
        have w3 : decide (((s[k]'hlt).toNat : Int) < 65) = true := by rw [hb]; simp; omega
        have w4 : decide ((90 : Int) < ((s[k]'hlt).toNat : Int)) = false := by rw [hb]; simp; omega
        have w5 : decide (((s[k]'hlt).toNat : Int) < 48) = false := by rw [hb]; simp; omega
        have w6 : decide ((57 : Int) < ((s[k]'hlt).toNat : Int)) = true := by rw [hb]; simp; omega
        have w7 : (((s[k]'hlt).toNat : Int) != 95) = true := by rw [hb]; simp; omega
        have L : Hid (wletter n = false) := by show wletter n = _; simp [wletter]; omega
        clear hb h
        go_wp2_with fail
        go_ret
        exact ⟨ret_b (N.out L.out).symm, X.out⟩
      · have w1 : decide (((s[k]'hlt).toNat : Int) < 97) = true := by rw [hb]; simp; omega
        have w2 : decide ((122 : Int) < ((s[k]'hlt).toNat : Int)) = false := by rw [hb]; simp; omega
        have w3 : decide (((s[k]'hlt).toNat : Int) < 65) = false := by rw [hb]; simp; omega
        have w4 : decide ((90 : Int) < ((s[k]'hlt).toNat : Int)) = false := by rw [hb]; simp; omega
        have w5 : decide (((s[k]'hlt).toNat : Int) < 48) = false := by rw [hb]; simp; omega
        have w6 : decide ((57 : Int) < ((s[k]'hlt).toNat : Int)) = true := by rw [hb]; simp; omega
        have w7 : (((s[k]'hlt).toNat : Int) != 95) = true := by rw [hb]; simp; omega
        have L : Hid (wletter n = true) := by show wletter n = _; simp [wletter]; omega
        clear hb h
        go_wp2_with fail
        go_roundw
        case rel => exact ⟨k + 1, by omega, by go_num, U.out L.out, X.out⟩
        case measure => simp [intOf]; omega
      · have w1 : decide (((s[k]'hlt).toNat : Int) < 97) = true := by rw [hb]; simp; omega
        have w2 : decide ((122 : Int) < ((s[k]'hlt).toNat : Int)) = false := by rw [hb]; simp; omega
        have w3 : decide (((s[k]'hlt).toNat : Int) < 65) = false := by rw [hb]; simp; omega
        have w4 : decide ((90 : Int) < ((s[k]'hlt).toNat : Int)) = true := by rw [hb]; simp; omega
        have w5 : decide (((s[k]'hlt).toNat : Int) < 48) = false := by rw [hb]; simp; omega
        have w6 : decide ((57 : Int) < ((s[k]'hlt).toNat : Int)) = true := by rw [hb]; simp; omega
        have w7 : (((s[k]'hlt).toNat : Int) != 95) = true := by rw [hb]; simp; omega
        have L : Hid (wletter n = false) := by show wletter n = _; simp [wletter]; omega
        clear hb h
        go_wp2_with fail
        go_ret
        exact ⟨ret_b (N.out L.out).symm, X.out⟩
      · have w1 : decide (((s[k]'hlt).toNat : Int) < 97) = true := by rw [hb]; simp; omega
        have w2 : decide ((122 : Int) < ((s[k]'hlt).toNat : Int)) = false := by rw [hb]; simp; omega
        have w3 : decide (((s[k]'hlt).toNat : Int) < 65) = false := by rw [hb]; simp; omega
        have w4 : decide ((90 : Int) < ((s[k]'hlt).toNat : Int)) = true := by rw [hb]; simp; omega
        have w5 : decide (((s[k]'hlt).toNat : Int) < 48) = false := by rw [hb]; simp; omega
        have w6 : decide ((57 : Int) < ((s[k]'hlt).toNat : Int)) = true := by rw [hb]; simp; omega
        have w7 : (((s[k]'hlt).toNat : Int) != 95) = false := by rw [hb]; simp; omega
        have L : Hid (wletter n = true) := by show wletter n = _; simp [wletter]; omega
        clear hb h
        go_wp2_with fail
        go_roundw
        case rel => exact ⟨k + 1, by omega, by go_num, U.out L.out, X.out⟩
        case measure => simp [intOf]; omega
      · have w1 : decide (((s[k]'hlt).toNat : Int) < 97) = true := by rw [hb]; simp; omega
        have w2 : decide ((122 : Int) < ((s[k]'hlt).toNat : Int)) = false := by rw [hb]; simp; omega
        have w3 : decide (((s[k]'hlt).toNat : Int) < 65) = false := by rw [hb]; simp; omega
        have w4 : decide ((90 : Int) < ((s[k]'hlt).toNat : Int)) = true := by rw [hb]; simp; omega
        have w5 : decide (((s[k]'hlt).toNat : Int) < 48) = false := by rw [hb]; simp; omega
        have w6 : decide ((57 : Int) < ((s[k]'hlt).toNat : Int)) = true := by rw [hb]; simp; omega
        have w7 : (((s[k]'hlt).toNat : Int) != 95) = true := by rw [hb]; simp; omega
        have L : Hid (wletter n = false) := by show wletter n = _; simp [wletter]; omega
        clear hb h
        go_wp2_with fail
        go_ret
        exact ⟨ret_b (N.out L.out).symm, X.out⟩
      · have w1 : decide (((s[k]'hlt).toNat : Int) < 97) = false := by rw [hb]; simp; omega
        have w2 : decide ((122 : Int) < ((s[k]'hlt).toNat : Int)) = false := by rw [hb]; simp; omega
        have w3 : decide (((s[k]'hlt).toNat : Int) < 65) = false := by rw [hb]; simp; omega
        have w4 : decide ((90 : Int) < ((s[k]'hlt).toNat : Int)) = true := by rw [hb]; simp; omega
        have w5 : decide (((s[k]'hlt).toNat : Int) < 48) = false := by rw [hb]; simp; omega
        have w6 : decide ((57 : Int) < ((s[k]'hlt).toNat : Int)) = true := by rw [hb]; simp; omega
        have w7 : (((s[k]'hlt).toNat : Int) != 95) = true := by rw [hb]; simp; omega
        have L : Hid (wletter n = true) := by show wletter n = _; simp [wletter]; omega
        clear hb h
        go_wp2_with fail
        go_roundw
        case rel => exact ⟨k + 1, by omega, by go_num, U.out L.out, X.out⟩
        case measure => simp [intOf]; omega
      · have w1 : decide (((s[k]'hlt).toNat : Int) < 97) = false := by rw [hb]; simp; omega
        have w2 : decide ((122 : Int) < ((s[k]'hlt).toNat : Int)) = true := by rw [hb]; simp; omega
        have w3 : decide (((s[k]'hlt).toNat : Int) < 65) = false := by rw [hb]; simp; omega
        have w4 : decide ((90 : Int) < ((s[k]'hlt).toNat : Int)) = true := by rw [hb]; simp; omega
        have w5 : decide (((s[k]'hlt).toNat : Int) < 48) = false := by rw [hb]; simp; omega
        have w6 : decide ((57 : Int) < ((s[k]'hlt).toNat : Int)) = true := by rw [hb]; simp; omega
        have w7 : (((s[k]'hlt).toNat : Int) != 95) = true := by rw [hb]; simp; omega
        have L : Hid (wletter n = false) := by show wletter n = _; simp [wletter]; omega
        clear hb h
        go_wp2_with fail
        go_ret
        exact ⟨ret_b (N.out L.out).symm, X.out⟩
    · have HR : Hid (wordB s = true) := wordB_yes (by omega) (by omega) fun i hi => A.out i (by omega)
      go_wp2_with fail
      go_ret
      exact ⟨ret_b HR.out.symm, X.out⟩

/-- Texts lie behind an address, in a block of S. -/
def XS (w : World) (S : Nat → Prop) (p : List ByteArray) (a : Option Addr) : Prop := p.length = 0 ∨ ∃ b o, a = some ⟨b, o, none⟩ ∧ S b ∧ ∀ i, i < p.length → w.cell? ⟨b, o + i, none⟩ = some (.string (p.getD i ⟨#[]⟩))

theorem XS_ks {w w' : World} {S : Nat → Prop} {p : List ByteArray} {a : Option Addr} (h : XS w S p a) (hk : Ks S w w') : XS w' S p a := by
  rcases h with h | ⟨b, o, e, hb, hc⟩
  · exact Or.inl h
  · exact Or.inr ⟨b, o, e, hb, fun i hi => by rw [hk.cell hb (World.block_lt_of_cell? _ _ (hc i hi))]; exact hc i hi⟩
theorem XS_mono {w : World} {S S' : Nat → Prop} {p : List ByteArray} {a : Option Addr} (h : XS w S p a) (hl : ∀ b, b < w.heap.size → S b → S' b) : XS w S' p a := by
  rcases h with h | ⟨b, o, e, hb, hc⟩
  · exact Or.inl h
  · by_cases h0 : p.length = 0
    · exact Or.inl h0
    · exact Or.inr ⟨b, o, e, hl b (World.block_lt_of_cell? _ _ (hc 0 (by omega))) hb, hc⟩
/-- .. all from block lo on. -/
def XA (w : World) (lo : Nat) (p : List ByteArray) (a : Option Addr) : Prop := XS w (fun b => lo ≤ b) p a
theorem XA_kp {w w' : World} {lo : Nat} {p : List ByteArray} {a : Option Addr} (h : XA w lo p a) (hk : Kp lo w w') : XA w' lo p a := XS_ks h hk.block
theorem XA_lo {w : World} {lo lo' : Nat} {p : List ByteArray} {a : Option Addr} (h : XA w lo p a) (hl : lo' ≤ lo) : XA w lo' p a := XS_mono h fun _ _ hb => Nat.le_trans hl hb
theorem XA_below {w w' : World} {lo : Nat} {p : List ByteArray} {a : Option Addr} (h : XA w lo p a) (hb : Ex w w') : XA w' lo p a := XA_kp h (Kp.of_below hb lo)
theorem XA_at {w : World} {lo : Nat} {p : List ByteArray} {a : Option Addr} (h : XA w lo p a) (h0 : 0 < p.length) : ∃ b o, a = some ⟨b, o, none⟩ ∧ b < w.heap.size ∧ lo ≤ b ∧ ∀ i, i < p.length → w.cell? ⟨b, o + i, none⟩ = some (.string (p.getD i ⟨#[]⟩)) := by
  rcases h with h | ⟨b, o, e, hb, hc⟩
  · omega
  · exact ⟨b, o, e, World.block_lt_of_cell? _ _ (hc 0 h0), hb, hc⟩

/-- The text is among the texts. -/
def hasB (p : List ByteArray) (s : ByteArray) : Bool := p.any fun t => t.toList == s.toList
theorem hasB_yes {p : List ByteArray} {s : ByteArray} {i : Nat} (h : i < p.length) (e : ((p.getD i ⟨#[]⟩).toList == s.toList) = true) : hasB p s = true := by
  simp only [hasB, List.any_eq_true]
  exact ⟨p.getD i ⟨#[]⟩, by simp [List.getD, h], e⟩
theorem hasB_no {p : List ByteArray} {s : ByteArray} (h : ∀ i, i < p.length → ((p.getD i ⟨#[]⟩).toList == s.toList) = false) : hasB p s = false := by
  simp only [hasB, List.any_eq_false]
  intro t ht
  obtain ⟨i, hi, rfl⟩ := List.getElem_of_mem ht
  have := h i hi
  simp only [List.getD, List.getElem?_eq_getElem hi, Option.getD_some] at this
  simp [this]

set_option maxHeartbeats 1000000 in
theorem l12Has_any (p : List ByteArray) (a : Option Addr) (c : Nat) (s : ByteArray) (w : World) (hl : p.length ≤ 1000000000) (hP : XA w 0 p a) :
    Calls Tryz.prog 51 #[.slice a p.length c, .string s] w fun e w' => e = .returned (.bool (hasB p s)) ∧ Ex w w' := by
  have P : Hid (∀ w', Ex w w' → XA w' 0 p a) := fun _ h => XA_below hP h
  clear hP
  go_enter Tryz.func51, Tryz.ntmps51
  go_wp2_with fail
  go_loopw [5] (fun i wr => ∃ (k : Nat), k ≤ p.length ∧ i = .int .i64 k ∧ (∀ j, j < k → ((p.getD j ⟨#[]⟩).toList == s.toList) = false) ∧ Ex w wr) (fun i _ => p.length - (intOf i).toNat)
  case atStart => exact ⟨0, by omega, rfl, fun j hj => by omega, Ex.refl _⟩
  case round =>
    obtain ⟨k, hk, rfl, hall, hx⟩ := hrel
    have A : Hid (∀ j, j < k → ((p.getD j ⟨#[]⟩).toList == s.toList) = false) := hall
    have X : Hid (Ex w wr) := hx
    clear hall hx
    by_cases hlt : k < p.length
    · obtain ⟨b, o, rfl, hbs, _, hc⟩ := XA_at (P.out wr X.out) (by omega)
      have ck := hc k hlt
      have Y : Hid (((p.getD k ⟨#[]⟩).toList == s.toList) = true → hasB p s = true) := hasB_yes hlt
      have U : Hid (((p.getD k ⟨#[]⟩).toList == s.toList) = false → ∀ j, j < k + 1 → ((p.getD j ⟨#[]⟩).toList == s.toList) = false) := fun h => upto_succ A.out h
      obtain ⟨t, ht⟩ : ∃ t, p.getD k ⟨#[]⟩ = t := ⟨_, rfl⟩
      rw [ht] at ck Y U
      clear hc ht
      cases he : t.toList == s.toList with
      | true =>
        have HR : Hid (hasB p s = true) := Y.out he
        go_wp2_with fail
        go_ret
        exact ⟨ret_b HR.out.symm, X.out⟩
      | false =>
        have HU : Hid _ := U.out he
        go_wp2_with fail
        go_roundw
        case rel => exact ⟨k + 1, by omega, by go_num, HU.out, X.out⟩
        case measure => simp [intOf]; omega
    · have HR : Hid (hasB p s = false) := hasB_no fun i hi => A.out i (by omega)
      go_wp2_with fail
      go_ret
      exact ⟨ret_b HR.out.symm, X.out⟩

end Go.Proofs.YtgpdnoghlommeaaGreatDoor
