/- Walks: paths drawn. Walks: a type copied by the specification; its part by a path. Walks: names of functions without places, and lists of texts. Walks: terms that are ok by names. -/
import Derived.Test.YtldbmlojgakieaaGreatDoorGW5
import Derived.Deep.LoopGhost
import Derived.Deep.RegionLaw
import Derived.Laws.Strings
namespace Go.Proofs.YtldbmlojgakieaaGreatDoor

open Go.RowKit Go.Deep

attribute [local go_sem ↓] Go.wp_at_zero Go.wp_at_succ

theorem Tryz.info3 : (Tryz.prog.info? 3).map (fun i => (i.zero, i.size, i.bytes)) = some (some (.int .i64 0), 1, 8) := by kernel_rfl

theorem heap_alloc_at (w : World) (o : Obj) {n : Nat} (h : n = w.heap.size) : (w.alloc o).heap[n]? = some o := by subst h; exact heap_alloc_new _ _

/-- Numbers in memory that the call itself has made. -/
abbrev Own (w : World) (base : Nat) (v : Value) (xs : List Int) : Prop := w.ownsRow base 3 1 v xs.length (xs.map (Value.int .i64))

theorem Own.PA {w : World} {base : Nat} {v : Value} {xs : List Int} (h : Own w base v xs) : ∃ pa pc, v = .slice pa xs.length pc ∧ PA w base xs pa ∧ xs.length ≤ pc ∧ pc ≤ 9223372036854775807 ∧ ((pa = none ∧ pc = 0) ∨ ∃ g, pa = some ⟨g, 0, none⟩) := by
  obtain ⟨_, ⟨rfl, h0⟩ | ⟨g, cap, cur, rfl, hg, hgc, hcap, hcm, _, ht⟩⟩ := h
  · exact ⟨none, 0, by rw [h0], Or.inl h0, by omega, by omega, Or.inl ⟨rfl, rfl⟩⟩
  · refine ⟨some ⟨g, 0, none⟩, cap, rfl, Or.inr ⟨g, 0, rfl, hg, fun i hi => ?_⟩, hcap, by unfold maxLen at hcm; omega, Or.inr ⟨g, rfl⟩⟩
    have : (cur.toList.take (xs.length * 1))[i]? = (xs.map (Value.int .i64))[i]? := by rw [ht]
    rw [Nat.mul_one, List.getElem?_take_of_lt hi, List.getElem?_map] at this
    simp [World.cell?, hgc]
    simp at this
    rw [this]
    simp [hi]

theorem Own.keep {w w' : World} {base : Nat} {v : Value} {xs : List Int} (h : Own w base v xs) (hk : Kp base w w') : Own w' base v xs := by
  obtain ⟨h1, h2 | ⟨g, cap, cur, rfl, hg, hgc, r⟩⟩ := h
  · exact ⟨h1, Or.inl h2⟩
  · exact ⟨h1, Or.inr ⟨g, cap, cur, rfl, hg, (hk.block g hg (lt_of_block hgc)).trans hgc, r⟩⟩

theorem Own.lo {w : World} {base base' : Nat} {v : Value} {xs : List Int} (h : Own w base v xs) (hb : base' ≤ base) : Own w base' v xs := by
  obtain ⟨h1, h2 | ⟨g, cap, cur, rfl, hg, r⟩⟩ := h
  · exact ⟨h1, Or.inl h2⟩
  · exact ⟨h1, Or.inr ⟨g, cap, cur, rfl, Nat.le_trans hb hg, r⟩⟩
theorem Own.row {w : World} {base : Nat} {v : Value} {xs : List Int} (h : Own w base v xs) : ∀ k, v.ownBlock = some k → base ≤ k := by
  obtain ⟨_, ⟨rfl, _⟩ | ⟨g, cap, cur, rfl, hg, _⟩⟩ := h
  · intro k hk; cases hk
  · intro k hk; cases hk; exact hg
theorem Fr.below {rb B : Nat} {a b c : World} (h : Fr rb a b) (k : Below B b c) (hB : a.heap.size ≤ B) : Fr rb a c :=
  ⟨k.os.trans h.os, k.tape.trans h.tape, k.output.trans h.output, Nat.le_trans h.size k.size, fun i hi hn => (k.block i (by omega)).trans (h.block i hi hn)⟩

/-- While a region goes on: of W only blocks rb and n have turned, and block n has c cells of type t that may be written. -/
def FC (rb n c : Nat) (t : TypeId) (W w : World) : Prop := (w.os = W.os ∧ w.tape = W.tape ∧ w.output = W.output ∧ W.heap.size ≤ w.heap.size) ∧ (∀ k, k < W.heap.size → k ≠ rb → k ≠ n → w.heap[k]? = W.heap[k]?) ∧ ∃ vs : Array Value, vs.size = c ∧ w.heap[n]? = some (.cells vs t (0, 0))
theorem FC.start {rb n c : Nat} {t : TypeId} {W : World} {vs : Array Value} (h : W.heap[n]? = some (.cells vs t (0, 0))) (hc : vs.size = c) : FC rb n c t W W := ⟨⟨rfl, rfl, rfl, Nat.le_refl _⟩, fun _ _ _ _ => rfl, vs, hc, h⟩
theorem FC.drew {rb n c : Nat} {t : TypeId} {W w : World} (h : FC rb n c t W w) : FC rb n c t W w.drew := h
theorem FC.fr {rb n c : Nat} {t : TypeId} {W w w' : World} (h : FC rb n c t W w) (hf : Fr rb w w') (hn : n ≠ rb) : FC rb n c t W w' := by
  obtain ⟨⟨h1, h2, h3, h4⟩, h5, vs, h6, h7⟩ := h
  exact ⟨⟨hf.os.trans h1, hf.tape.trans h2, hf.output.trans h3, Nat.le_trans h4 hf.size⟩, fun k hk e1 e2 => (hf.block k (Nat.lt_of_lt_of_le hk h4) e1).trans (h5 k hk e1 e2), vs, h6, hf.blk hn h7⟩
theorem FC.ex {rb n c : Nat} {t : TypeId} {W w w' : World} (h : FC rb n c t W w) (hf : Ex w w') (hn : n ≠ rb) : FC rb n c t W w' := h.fr (Fr.of_ex hf _) hn
theorem FC.set {rb n c : Nat} {t : TypeId} {W w : World} (h : FC rb n c t W w) (i : Nat) (v : Value) : FC rb n c t W (w.setCell ⟨n, i, none⟩ v) := by
  obtain ⟨⟨h1, h2, h3, h4⟩, h5, vs, h6, h7⟩ := h
  refine ⟨⟨h1, h2, h3, by rw [World.size_setCell]; exact h4⟩, fun k hk e1 e2 => by rw [Below.heap_setCell _ _ _ _ e2]; exact h5 k hk e1 e2, vs.setIfInBounds i v, by simp [h6], ?_⟩
  simp [World.setCell, Array.getElem?_modify, h7]
theorem FC.cell {rb n c : Nat} {t : TypeId} {W w : World} (h : FC rb n c t W w) (i : Nat) (hi : i < c) : ∃ v, w.cell? ⟨n, i, none⟩ = some v := by
  obtain ⟨_, _, vs, h6, h7⟩ := h
  exact ⟨vs[i]'(by omega), by simp [World.cell?, h7, h6, hi]⟩
theorem FC.frozen {rb n c : Nat} {t : TypeId} {W w : World} (h : FC rb n c t W w) (i : Nat) : w.frozen? ⟨n, i, none⟩ = false := by
  obtain ⟨_, _, vs, h6, h7⟩ := h
  simp [World.frozen?, h7]
theorem FC.at {rb n c : Nat} {t : TypeId} {W w : World} (h : FC rb n c t W w) {p : Addr} {v : Value} (h1 : p.block ≠ rb) (h2 : p.block ≠ n) (hc : W.cell? p = some v) : w.cell? p = some v :=
  (World.cell?_of_block (w := W) (h.2.1 _ (World.block_lt_of_cell? _ _ hc) h1 h2)).trans hc
theorem FC.kp {rb n c lo : Nat} {t : TypeId} {W w : World} (h : FC rb n c t W w) (h1 : rb < lo) (h2 : n < lo) : Kp lo W w := ⟨h.1.2.2.2, fun k hk hk2 => h.2.1 k hk2 (by omega) (by omega)⟩
theorem FC.to_ex {rb n c : Nat} {t : TypeId} {w0 W w : World} (h : FC rb n c t W w) (hx : Ex w0 W) (h1 : w0.heap.size ≤ rb) (h2 : w0.heap.size ≤ n) : Ex w0 w :=
  ⟨h.1.1.trans hx.os, h.1.2.1.trans hx.tape, h.1.2.2.1.trans hx.output, Nat.le_trans hx.size h.1.2.2.2, fun k hk => (h.2.1 k (Nat.lt_of_lt_of_le hk hx.size) (by omega) (by omega)).trans (hx.block k hk)⟩

end Go.Proofs.YtldbmlojgakieaaGreatDoor

namespace Go.Proofs.YtldbmlojgakieaaGreatDoor

open Go.RowKit Go.Deep

attribute [local go_sem ↓] Go.wp_at_zero Go.wp_at_succ

theorem l6In_any (n lo hi : Int) (w : World) : Calls Tryz.prog 91 #[.int .i64 n, .int .i64 lo, .int .i64 hi] w fun e w' => e = .returned (.bool (decide (lo ≤ n ∧ n ≤ hi))) ∧ Ex w w' := by
  by_cases h : lo ≤ n
  · have e0 : decide (lo ≤ n) = true := by simp [h]
    go_enter Tryz.func91, Tryz.ntmps91
    go_wp2_with fail
    go_ret
    exact ⟨ret_b (by simp [h]), Ex.refl _⟩
  · have e0 : decide (lo ≤ n) = false := by simp; omega
    go_enter Tryz.func91, Tryz.ntmps91
    go_wp2_with fail
    go_ret
    exact ⟨ret_b (by simp), Ex.refl _⟩

theorem owns_ex {w w' : World} {base : Nat} {e : TypeId} {size : Nat} {v : Value} {n : Nat} {xs : List Value} (h : w.ownsRow base e size v n xs) (hx : Ex w w') : w'.ownsRow base e size v n xs := by
  obtain ⟨h1, h2 | ⟨g, cap, cur, rfl, hg, hgc, r⟩⟩ := h
  · exact ⟨h1, Or.inl h2⟩
  · exact ⟨h1, Or.inr ⟨g, cap, cur, rfl, hg, hx.blk hgc, r⟩⟩
theorem owns_row {w : World} {base : Nat} {e : TypeId} {size : Nat} {v : Value} {n : Nat} {xs : List Value} (h : w.ownsRow base e size v n xs) : ∀ k, v.ownBlock = some k → base ≤ k := by
  obtain ⟨_, ⟨rfl, _⟩ | ⟨g, cap, cur, rfl, hg, _⟩⟩ := h
  · intro k hk; cases hk
  · intro k hk; cases hk; exact hg
theorem grown_blk {w w' : World} {v : Value} {base n : Nat} {o o' : Obj} (h : (w.alloc o').grownBy w' v.ownBlock) (hr : ∀ k, v.ownBlock = some k → base ≤ k) (hn : n < base) (hb : w.heap[n]? = some o) : w'.heap[n]? = some o := by
  have hlt := lt_of_block hb
  exact (h.block n (by rw [World.size_alloc]; omega) (fun e => by have := hr n e.symm; omega)).trans ((Ex.new _ _).blk hb)

theorem Ex.grown {a b c : World} {v : Value} {base : Nat} {o : Obj} (h : Ex a b) (hg : (b.alloc o).grownBy c v.ownBlock) (hr : ∀ k, v.ownBlock = some k → base ≤ k) (hb : a.heap.size ≤ base) : Ex a c :=
  ⟨hg.os.trans h.os, hg.tape.trans h.tape, hg.output.trans h.output, Nat.le_trans (h.alloc o).size hg.size, fun k hk => (hg.block k (Nat.lt_of_lt_of_le hk (h.alloc o).size) (fun e => by have := hr k e.symm; omega)).trans ((h.alloc o).block k hk)⟩

theorem kids_step {wr w1 w2 : World} {base k gg cap k2 out : Nat} {e : TypeId} {v u : Value} {cs : List Value} {f : F} {a2 : Option Addr} {o' : Obj}
    (O : wr.ownsRow base e 1 v k cs) (hb2 : Ex wr w1) (hgrow : (w1.alloc o').grownBy w2 v.ownBlock) (hat : v.ownBlock = some gg ∨ gg = w1.heap.size + 1) (hout : out < base)
    (KI : ∀ j, j < k → ∃ a' c', cs[j]? = some (.slice a' (len (kid f j)) c') ∧ SA wr (fun b => base ≤ b ∧ v.ownBlock ≠ some b) (kid f j) a')
    (ht2 : TA w1 wr.heap.size (kid f k) a2) (hbase : base ≤ wr.heap.size) :
    ∀ j, j < k + 1 → ∃ a' c', (cs ++ [Value.slice a2 (len (kid f k)) k2])[j]? = some (.slice a' (len (kid f j)) c') ∧ SA (w2.setCell ⟨out, 0, none⟩ u) (fun b => base ≤ b ∧ (Value.slice (some ⟨gg, 0, none⟩) (k + 1) cap).ownBlock ≠ some b) (kid f j) a' := by
  have hcs : cs.length = k := by have := O.1; omega
  have hvb : ∀ g, v.ownBlock = some g → g < wr.heap.size := by
    obtain ⟨_, ⟨rfl, _⟩ | ⟨g, c, cur, rfl, hg, hgc, _⟩⟩ := O
    · intro g hg; cases hg
    · intro g' hg'; cases hg'; exact lt_of_block hgc
  have move : ∀ (g : F) (a' : Option Addr), SA w1 (fun b => base ≤ b ∧ v.ownBlock ≠ some b) g a' → SA (w2.setCell ⟨out, 0, none⟩ u) (fun b => base ≤ b ∧ (Value.slice (some ⟨gg, 0, none⟩) (k + 1) cap).ownBlock ≠ some b) g a' := by
    intro g a' h
    have h1 := SA_mono (S' := fun b => base ≤ b ∧ v.ownBlock ≠ some b ∧ b < w1.heap.size) h fun b hb hs => ⟨hs.1, hs.2, hb⟩
    have h2 : SA w2 (fun b => base ≤ b ∧ v.ownBlock ≠ some b ∧ b < w1.heap.size) g a' := SA_ks h1 fun b hs hlt => (hgrow.block b (by rw [World.size_alloc]; omega) (fun e => hs.2.1 e.symm)).trans ((Ex.new _ _).block b hlt)
    have h3 : SA (w2.setCell ⟨out, 0, none⟩ u) (fun b => base ≤ b ∧ v.ownBlock ≠ some b ∧ b < w1.heap.size) g a' := SA_ks h2 fun b hs _ => Below.heap_setCell _ _ _ _ (by show b ≠ out; omega)
    refine SA_mono h3 fun b _ hs => ⟨hs.1, fun e => ?_⟩
    have e' : gg = b := by simpa [Value.ownBlock] using e
    rcases hat with h | h
    · exact hs.2.1 (by rw [h, e'])
    · have := hs.2.2; omega
  intro j hj
  by_cases h : j < k
  · obtain ⟨a', c', h1, h2⟩ := KI j h
    exact ⟨a', c', by rw [List.getElem?_append_left (by omega)]; exact h1, move _ _ (SA_ks h2 fun b _ hlt => hb2.block b hlt)⟩
  · have e : j = k := by omega
    subst e
    refine ⟨a2, k2, by rw [List.getElem?_append_right (by omega)]; simp [hcs], move _ _ (SA_mono ht2 fun b _ hb => ⟨Nat.le_trans hbase hb, fun e => by have := hvb b e; omega⟩)⟩

theorem fits_kid_ex {r : Nat} {g : F} (h : fits r g = true) (hr : r ≤ 4) (i : Nat) (hi : i < len g) : ∃ r', r' ≤ 4 ∧ fits r' (kid g i) = true := by
  cases r with
  | zero => simp [fits] at h
  | succ r =>
    have h2 : len g = 2 := by have := fits_len h; omega
    rw [fits_two h2, Bool.and_eq_true] at h
    have : i = 0 ∨ i = 1 := by omega
    rcases this with rfl | rfl
    · exact ⟨r, by omega, h.1⟩
    · exact ⟨r, by omega, h.2⟩

end Go.Proofs.YtldbmlojgakieaaGreatDoor

namespace Go.Proofs.YtldbmlojgakieaaGreatDoor

open Go.RowKit Go.Deep

attribute [local go_sem ↓] Go.wp_at_zero Go.wp_at_succ

/-- A byte of a text. -/
def wbt (s : ByteArray) (i : Nat) : Nat := (s.data.toList.getD i 0).toNat
theorem wbt_at (s : ByteArray) (i : Nat) (h : i < s.size) : (s[i]'h).toNat = wbt s i := by
  obtain ⟨⟨l⟩⟩ := s
  have hl : i < l.length := h
  show ((ByteArray.mk ⟨l⟩)[i]'hl).toNat = (l.getD i 0).toNat
  simp only [List.getD, List.getElem?_eq_getElem hl, Option.getD_some]
  rfl

def wletter (n : Nat) : Bool := decide (97 ≤ n ∧ n ≤ 122 ∨ 65 ≤ n ∧ n ≤ 90 ∨ 48 ≤ n ∧ n ≤ 57 ∨ n = 95)
/-- 1 to 12 letters, figures and underscores. -/
def wordB (s : ByteArray) : Bool := decide (1 ≤ s.size) && decide (s.size ≤ 12) && (List.range s.size).all fun i => wletter (wbt s i)

theorem wordB_no {s : ByteArray} {i : Nat} (h : i < s.size) (hb : wletter (wbt s i) = false) : wordB s = false := by
  cases hn : wordB s with
  | false => rfl
  | true =>
    simp only [wordB, Bool.and_eq_true, List.all_eq_true, List.mem_range] at hn
    rw [hn.2 i h] at hb; cases hb
theorem wordB_yes {s : ByteArray} (h1 : 1 ≤ s.size) (h2 : s.size ≤ 12) (h : ∀ i, i < s.size → wletter (wbt s i) = true) : wordB s = true := by
  simp only [wordB, Bool.and_eq_true, List.all_eq_true, List.mem_range, decide_eq_true_eq]
  exact ⟨⟨h1, h2⟩, h⟩
theorem wordB_size {s : ByteArray} (h : s.size < 1 ∨ 12 < s.size) : wordB s = false := by
  simp only [wordB]
  rcases h with h | h
  · simp [show ¬ 1 ≤ s.size by omega]
  · simp [show ¬ s.size ≤ 12 by omega]

theorem upto_succ {P : Nat → Prop} {k : Nat} (h : ∀ j, j < k → P j) (hk : P k) : ∀ j, j < k + 1 → P j := fun j hj => by
  rcases Nat.lt_or_eq_of_le (Nat.le_of_lt_succ hj) with h1 | h1
  · exact h j h1
  · exact h1 ▸ hk

theorem byte_class (n : Nat) : n < 48 ∨ (48 ≤ n ∧ n ≤ 57) ∨ (58 ≤ n ∧ n ≤ 64) ∨ (65 ≤ n ∧ n ≤ 90) ∨ (91 ≤ n ∧ n ≤ 94) ∨ n = 95 ∨ n = 96 ∨ (97 ≤ n ∧ n ≤ 122) ∨ 123 ≤ n := by omega

set_option maxHeartbeats 2000000 in
theorem l12Word_any (s : ByteArray) (w : World) : Calls Tryz.prog 46 #[.string s] w fun e w' => e = .returned (.bool (wordB s)) ∧ Ex w w' := by
  by_cases h1 : s.size < 1
  · have HR : Hid (wordB s = false) := wordB_size (Or.inl h1)
    have d1 : decide ((s.size : Int) < 1) = true := by simp; omega
    go_enter Tryz.func46, Tryz.ntmps46
    go_wp2_with fail
    go_ret
    exact ⟨ret_b HR.out.symm, Ex.refl _⟩
  by_cases h6 : 12 < s.size
  · have HR : Hid (wordB s = false) := wordB_size (Or.inr h6)
    have d1 : decide ((s.size : Int) < 1) = false := by simp; omega
    have d2 : decide ((12 : Int) < (s.size : Int)) = true := by simp; omega
    go_enter Tryz.func46, Tryz.ntmps46
    go_wp2_with fail
    go_ret
    exact ⟨ret_b HR.out.symm, Ex.refl _⟩
  have d1 : decide ((s.size : Int) < 1) = false := by simp; omega
  have d2 : decide ((12 : Int) < (s.size : Int)) = false := by simp; omega
  go_enter Tryz.func46, Tryz.ntmps46
  go_wp2_with fail
  go_loopw [3] (fun i wr => ∃ (k : Nat), k ≤ s.size ∧ i = .int .i64 k ∧ (∀ j, j < k → wletter (wbt s j) = true) ∧ Ex w wr) (fun i _ => s.size - (intOf i).toNat)
  case atStart => exact ⟨0, by omega, rfl, fun j hj => by omega, Ex.refl _⟩
  case round =>
    obtain ⟨k, hk, rfl, hall, hx⟩ := hrel
    have A : Hid (∀ j, j < k → wletter (wbt s j) = true) := hall
    have X : Hid (Ex w wr) := hx
    clear hall hx
    by_cases hlt : k < s.size
    · have hb := wbt_at s k hlt
      have N : Hid (wletter (wbt s k) = false → wordB s = false) := wordB_no hlt
      have U : Hid (wletter (wbt s k) = true → ∀ j, j < k + 1 → wletter (wbt s j) = true) := fun h => upto_succ A.out h
      obtain ⟨n, hn⟩ : ∃ n, wbt s k = n := ⟨_, rfl⟩
      rw [hn] at hb N U
      clear hn
      rcases byte_class n with h | h | h | h | h | h | h | h | h
      · have w1 : decide (((s[k]'hlt).toNat : Int) < 97) = true := by rw [hb]; simp; omega
        have w2 : decide ((122 : Int) < ((s[k]'hlt).toNat : Int)) = false := by rw [hb]; simp; omega
        have w3 : decide (((s[k]'hlt).toNat : Int) < 65) = true := by rw [hb]; simp; omega
        have w4 : decide ((90 : Int) < ((s[k]'hlt).toNat : Int)) = false := by rw [hb]; simp; omega
        have w5 : decide (((s[k]'hlt).toNat : Int) < 48) = true := by rw [hb]; simp; omega
        have w6 : decide ((57 : Int) < ((s[k]'hlt).toNat : Int)) = false := by rw [hb]; simp; omega
        have w7 : (((s[k]'hlt).toNat : Int) != 95) = true := by rw [hb]; simp; omega
        have L : Hid (wletter n = false) := by show wletter n = _; simp [wletter]; omega
        clear hb h
        go_wp2_with fail
        go_ret
        exact ⟨ret_b (N.out L.out).symm, X.out⟩
      · have w1 : decide (((s[k]'hlt).toNat : Int) < 97) = true := by rw [hb]; simp; omega
        have w2 : decide ((122 : Int) < ((s[k]'hlt).toNat : Int)) = false := by rw [hb]; simp; omega
        have w3 : decide (((s[k]'hlt).toNat : Int) < 65) = true := by rw [hb]; simp; omega
        have w4 : decide ((90 : Int) < ((s[k]'hlt).toNat : Int)) = false := by rw [hb]; simp; omega
        have w5 : decide (((s[k]'hlt).toNat : Int) < 48) = false := by rw [hb]; simp; omega
        have w6 : decide ((57 : Int) < ((s[k]'hlt).toNat : Int)) = false := by rw [hb]; simp; omega
        have w7 : (((s[k]'hlt).toNat : Int) != 95) = true := by rw [hb]; simp; omega
        have L : Hid (wletter n = true) := by show wletter n = _; simp [wletter]; omega
        clear hb h
        go_wp2_with fail
        go_roundw
        case rel => exact ⟨k + 1, by omega, by go_num, U.out L.out, X.out⟩
        case measure => simp [intOf]; omega
      · have w1 : decide (((s[k]'hlt).toNat : Int) < 97) = true := by rw [hb]; simp; omega
        have w2 : decide ((122 : Int) < ((s[k]'hlt).toNat : Int)) = false := by rw [hb]; simp; omega
        have w3 : decide (((s[k]'hlt).toNat : Int) < 65) = true := by rw [hb]; simp; omega
        have w4 : decide ((90 : Int) < ((s[k]'hlt).toNat : Int)) = false := by rw [hb]; simp; omega
        have w5 : decide (((s[k]'hlt).toNat : Int) < 48) = false := by rw [hb]; simp; omega
        have w6 : decide ((57 : Int) < ((s[k]'hlt).toNat : Int)) = true := by rw [hb]; simp; omega
        have w7 : (((s[k]'hlt).toNat : Int) != 95) = true := by rw [hb]; simp; omega
        have L : Hid (wletter n = false) := by show wletter n = _; simp [wletter]; omega
        clear hb h
        go_wp2_with fail
        go_ret
        exact ⟨ret_b (N.out L.out).symm, X.out⟩
      · have w1 : decide (((s[k]'hlt).toNat : Int) < 97) = true := by rw [hb]; simp; omega
        have w2 : decide ((122 : Int) < ((s[k]'hlt).toNat : Int)) = false := by rw [hb]; simp; omega
        have w3 : decide (((s[k]'hlt).toNat : Int) < 65) = false := by rw [hb]; simp; omega
        have w4 : decide ((90 : Int) < ((s[k]'hlt).toNat : Int)) = false := by rw [hb]; simp; omega
        have w5 : decide (((s[k]'hlt).toNat : Int) < 48) = false := by rw [hb]; simp; omega
        have w6 : decide ((57 : Int) < ((s[k]'hlt).toNat : Int)) = true := by rw [hb]; simp; omega
        have w7 : (((s[k]'hlt).toNat : Int) != 95) = true := by rw [hb]; simp; omega
        have L : Hid (wletter n = true) := by show wletter n = _; simp [wletter]; omega
        clear hb h
        go_wp2_with fail
        go_roundw
        case rel => exact ⟨k + 1, by omega, by go_num, U.out L.out, X.out⟩
        case measure => simp [intOf]; omega
      · have w1 : decide (((s[k]'hlt).toNat : Int) < 97) = true := by rw [hb]; simp; omega
        have w2 : decide ((122 : Int) < ((s[k]'hlt).toNat : Int)) = false := by rw [hb]; simp; omega
        have w3 : decide (((s[k]'hlt).toNat : Int) < 65) = false := by rw [hb]; simp; omega
        have w4 : decide ((90 : Int) < ((s[k]'hlt).toNat : Int)) = true := by rw [hb]; simp; omega
        have w5 : decide (((s[k]'hlt).toNat : Int) < 48) = false := by rw [hb]; simp; omega
        have w6 : decide ((57 : Int) < ((s[k]'hlt).toNat : Int)) = true := by rw [hb]; simp; omega
        have w7 : (((s[k]'hlt).toNat : Int) != 95) = true := by rw [hb]; simp; omega
        have L : Hid (wletter n = false) := by show wletter n = _; simp [wletter]; omega
        clear hb h
        go_wp2_with fail
        go_ret
        exact ⟨ret_b (N.out L.out).symm, X.out⟩
      · have w1 : decide (((s[k]'hlt).toNat : Int) < 97) = true := by rw [hb]; simp; omega
        have w2 : decide ((122 : Int) < ((s[k]'hlt).toNat : Int)) = false := by rw [hb]; simp; omega
        have w3 : decide (((s[k]'hlt).toNat : Int) < 65) = false := by rw [hb]; simp; omega
        have w4 : decide ((90 : Int) < ((s[k]'hlt).toNat : Int)) = true := by rw [hb]; simp; omega
        have w5 : decide (((s[k]'hlt).toNat : Int) < 48) = false := by rw [hb]; simp; omega
        have w6 : decide ((57 : Int) < ((s[k]'hlt).toNat : Int)) = true := by rw [hb]; simp; omega
        have w7 : (((s[k]'hlt).toNat : Int) != 95) = false := by rw [hb]; simp; omega
        have L : Hid (wletter n = true) := by show wletter n = _; simp [wletter]; omega
        clear hb h
        go_wp2_with fail
        go_roundw
        case rel => exact ⟨k + 1, by omega, by go_num, U.out L.out, X.out⟩
        case measure => simp [intOf]; omega
      · have w1 : decide (((s[k]'hlt).toNat : Int) < 97) = true := by rw [hb]; simp; omega
        have w2 : decide ((122 : Int) < ((s[k]'hlt).toNat : Int)) = false := by rw [hb]; simp; omega
        have w3 : decide (((s[k]'hlt).toNat : Int) < 65) = false := by rw [hb]; simp; omega
        have w4 : decide ((90 : Int) < ((s[k]'hlt).toNat : Int)) = true := by rw [hb]; simp; omega
        have w5 : decide (((s[k]'hlt).toNat : Int) < 48) = false := by rw [hb]; simp; omega
        have w6 : decide ((57 : Int) < ((s[k]'hlt).toNat : Int)) = true := by rw [hb]; simp; omega
        have w7 : (((s[k]'hlt).toNat : Int) != 95) = true := by rw [hb]; simp; omega
        have L : Hid (wletter n = false) := by show wletter n = _; simp [wletter]; omega
        clear hb h
        go_wp2_with fail
        go_ret
        exact ⟨ret_b (N.out L.out).symm, X.out⟩
      · have w1 : decide (((s[k]'hlt).toNat : Int) < 97) = false := by rw [hb]; simp; omega
        have w2 : decide ((122 : Int) < ((s[k]'hlt).toNat : Int)) = false := by rw [hb]; simp; omega
        have w3 : decide (((s[k]'hlt).toNat : Int) < 65) = false := by rw [hb]; simp; omega
        have w4 : decide ((90 : Int) < ((s[k]'hlt).toNat : Int)) = true := by rw [hb]; simp; omega
        have w5 : decide (((s[k]'hlt).toNat : Int) < 48) = false := by rw [hb]; simp; omega
        have w6 : decide ((57 : Int) < ((s[k]'hlt).toNat : Int)) = true := by rw [hb]; simp; omega
        have w7 : (((s[k]'hlt).toNat : Int) != 95) = true := by rw [hb]; simp; omega
        have L : Hid (wletter n = true) := by show wletter n = _; simp [wletter]; omega
        clear hb h
        go_wp2_with fail
        go_roundw
        case rel => exact ⟨k + 1, by omega, by go_num, U.out L.out, X.out⟩
        case measure => simp [intOf]; omega
      · have w1 : decide (((s[k]'hlt).toNat : Int) < 97) = false := by rw [hb]; simp; omega
        have w2 : decide ((122 : Int) < ((s[k]'hlt).toNat : Int)) = true := by rw [hb]; simp; omega
        have w3 : decide (((s[k]'hlt).toNat : Int) < 65) = false := by rw [hb]; simp; omega
        have w4 : decide ((90 : Int) < ((s[k]'hlt).toNat : Int)) = true := by rw [hb]; simp; omega
        have w5 : decide (((s[k]'hlt).toNat : Int) < 48) = false := by rw [hb]; simp; omega
        have w6 : decide ((57 : Int) < ((s[k]'hlt).toNat : Int)) = true := by rw [hb]; simp; omega
        have w7 : (((s[k]'hlt).toNat : Int) != 95) = true := by rw [hb]; simp; omega
        have L : Hid (wletter n = false) := by show wletter n = _; simp [wletter]; omega
        clear hb h
        go_wp2_with fail
        go_ret
        exact ⟨ret_b (N.out L.out).symm, X.out⟩
    · have HR : Hid (wordB s = true) := wordB_yes (by omega) (by omega) fun i hi => A.out i (by omega)
      go_wp2_with fail
      go_ret
      exact ⟨ret_b HR.out.symm, X.out⟩

/-- Texts lie behind an address, in a block of S. -/
def XS (w : World) (S : Nat → Prop) (p : List ByteArray) (a : Option Addr) : Prop := p.length = 0 ∨ ∃ b o, a = some ⟨b, o, none⟩ ∧ S b ∧ ∀ i, i < p.length → w.cell? ⟨b, o + i, none⟩ = some (.string (p.getD i ⟨#[]⟩))

theorem XS_ks {w w' : World} {S : Nat → Prop} {p : List ByteArray} {a : Option Addr} (h : XS w S p a) (hk : Ks S w w') : XS w' S p a := by
  rcases h with h | ⟨b, o, e, hb, hc⟩
  · exact Or.inl h
  · exact Or.inr ⟨b, o, e, hb, fun i hi => by rw [hk.cell hb (World.block_lt_of_cell? _ _ (hc i hi))]; exact hc i hi⟩
theorem XS_mono {w : World} {S S' : Nat → Prop} {p : List ByteArray} {a : Option Addr} (h : XS w S p a) (hl : ∀ b, b < w.heap.size → S b → S' b) : XS w S' p a := by
  rcases h with h | ⟨b, o, e, hb, hc⟩
  · exact Or.inl h
  · by_cases h0 : p.length = 0
    · exact Or.inl h0
    · exact Or.inr ⟨b, o, e, hl b (World.block_lt_of_cell? _ _ (hc 0 (by omega))) hb, hc⟩
/-- .. all from block lo on. -/
def XA (w : World) (lo : Nat) (p : List ByteArray) (a : Option Addr) : Prop := XS w (fun b => lo ≤ b) p a
theorem XA_kp {w w' : World} {lo : Nat} {p : List ByteArray} {a : Option Addr} (h : XA w lo p a) (hk : Kp lo w w') : XA w' lo p a := XS_ks h hk.block
theorem XA_lo {w : World} {lo lo' : Nat} {p : List ByteArray} {a : Option Addr} (h : XA w lo p a) (hl : lo' ≤ lo) : XA w lo' p a := XS_mono h fun _ _ hb => Nat.le_trans hl hb
theorem XA_below {w w' : World} {lo : Nat} {p : List ByteArray} {a : Option Addr} (h : XA w lo p a) (hb : Ex w w') : XA w' lo p a := XA_kp h (Kp.of_below hb lo)
theorem XA_at {w : World} {lo : Nat} {p : List ByteArray} {a : Option Addr} (h : XA w lo p a) (h0 : 0 < p.length) : ∃ b o, a = some ⟨b, o, none⟩ ∧ b < w.heap.size ∧ lo ≤ b ∧ ∀ i, i < p.length → w.cell? ⟨b, o + i, none⟩ = some (.string (p.getD i ⟨#[]⟩)) := by
  rcases h with h | ⟨b, o, e, hb, hc⟩
  · omega
  · exact ⟨b, o, e, World.block_lt_of_cell? _ _ (hc 0 h0), hb, hc⟩

/-- The text is among the texts. -/
def hasB (p : List ByteArray) (s : ByteArray) : Bool := p.any fun t => t.toList == s.toList
theorem hasB_yes {p : List ByteArray} {s : ByteArray} {i : Nat} (h : i < p.length) (e : ((p.getD i ⟨#[]⟩).toList == s.toList) = true) : hasB p s = true := by
  simp only [hasB, List.any_eq_true]
  exact ⟨p.getD i ⟨#[]⟩, by simp [List.getD, h], e⟩
theorem hasB_no {p : List ByteArray} {s : ByteArray} (h : ∀ i, i < p.length → ((p.getD i ⟨#[]⟩).toList == s.toList) = false) : hasB p s = false := by
  simp only [hasB, List.any_eq_false]
  intro t ht
  obtain ⟨i, hi, rfl⟩ := List.getElem_of_mem ht
  have := h i hi
  simp only [List.getD, List.getElem?_eq_getElem hi, Option.getD_some] at this
  simp [this]

set_option maxHeartbeats 1000000 in
theorem l12Has_any (p : List ByteArray) (a : Option Addr) (c : Nat) (s : ByteArray) (w : World) (hl : p.length ≤ 1000000000) (hP : XA w 0 p a) :
    Calls Tryz.prog 48 #[.slice a p.length c, .string s] w fun e w' => e = .returned (.bool (hasB p s)) ∧ Ex w w' := by
  have P : Hid (∀ w', Ex w w' → XA w' 0 p a) := fun _ h => XA_below hP h
  clear hP
  go_enter Tryz.func48, Tryz.ntmps48
  go_wp2_with fail
  go_loopw [5] (fun i wr => ∃ (k : Nat), k ≤ p.length ∧ i = .int .i64 k ∧ (∀ j, j < k → ((p.getD j ⟨#[]⟩).toList == s.toList) = false) ∧ Ex w wr) (fun i _ => p.length - (intOf i).toNat)
  case atStart => exact ⟨0, by omega, rfl, fun j hj => by omega, Ex.refl _⟩
  case round =>
    obtain ⟨k, hk, rfl, hall, hx⟩ := hrel
    have A : Hid (∀ j, j < k → ((p.getD j ⟨#[]⟩).toList == s.toList) = false) := hall
    have X : Hid (Ex w wr) := hx
    clear hall hx
    by_cases hlt : k < p.length
    · obtain ⟨b, o, rfl, hbs, _, hc⟩ := XA_at (P.out wr X.out) (by omega)
      have ck := hc k hlt
      have Y : Hid (((p.getD k ⟨#[]⟩).toList == s.toList) = true → hasB p s = true) := hasB_yes hlt
      have U : Hid (((p.getD k ⟨#[]⟩).toList == s.toList) = false → ∀ j, j < k + 1 → ((p.getD j ⟨#[]⟩).toList == s.toList) = false) := fun h => upto_succ A.out h
      obtain ⟨t, ht⟩ : ∃ t, p.getD k ⟨#[]⟩ = t := ⟨_, rfl⟩
      rw [ht] at ck Y U
      clear hc ht
      cases he : t.toList == s.toList with
      | true =>
        have HR : Hid (hasB p s = true) := Y.out he
        go_wp2_with fail
        go_ret
        exact ⟨ret_b HR.out.symm, X.out⟩
      | false =>
        have HU : Hid _ := U.out he
        go_wp2_with fail
        go_roundw
        case rel => exact ⟨k + 1, by omega, by go_num, HU.out, X.out⟩
        case measure => simp [intOf]; omega
    · have HR : Hid (hasB p s = false) := hasB_no fun i hi => A.out i (by omega)
      go_wp2_with fail
      go_ret
      exact ⟨ret_b HR.out.symm, X.out⟩

end Go.Proofs.YtldbmlojgakieaaGreatDoor

namespace Go.Proofs.YtldbmlojgakieaaGreatDoor

open Go.RowKit Go.Deep

attribute [local go_sem ↓] Go.wp_at_zero Go.wp_at_succ

/-- A term has just what its kind says, its kids and its path aside. -/
def ownB (ns : List ByteArray) (k n : Int) (s : ByteArray) (p : List Int) (l : Nat) : Bool :=
  if k ≠ 1 ∧ n ≠ 0 then false else if k ≠ 2 ∧ s.size ≠ 0 then false else if ¬(k = 7 ∨ k = 8) ∧ p.length ≠ 0 then false
  else if k = 1 then decide (0 ≤ n ∧ n ≤ 9999) && l == 0 else if k = 2 then hasB ns s && l == 0 else if k = 7 then l == 1 else decide (3 ≤ k ∧ k ≤ 8) && l == 2

theorem ownB_n {ns : List ByteArray} {k n : Int} {s : ByteArray} {p : List Int} {l : Nat} (h : k ≠ 1) (hn : n ≠ 0) : ownB ns k n s p l = false := by
  unfold ownB; rw [if_pos ⟨h, hn⟩]
theorem ownB_s {ns : List ByteArray} {k n : Int} {s : ByteArray} {p : List Int} {l : Nat} (h : k ≠ 2) (hs : s.size ≠ 0) : ownB ns k n s p l = false := by
  unfold ownB; split
  · rfl
  · rw [if_pos ⟨h, hs⟩]
theorem ownB_p {ns : List ByteArray} {k n : Int} {s : ByteArray} {p : List Int} {l : Nat} (h : ¬(k = 7 ∨ k = 8)) (hp : p.length ≠ 0) : ownB ns k n s p l = false := by
  unfold ownB; split
  · rfl
  · split
    · rfl
    · rw [if_pos ⟨h, hp⟩]
theorem ownB_1 {ns : List ByteArray} {n : Int} {s : ByteArray} {p : List Int} {l : Nat} (hs : s.size = 0) (hp : p.length = 0) : ownB ns 1 n s p l = (decide (0 ≤ n ∧ n ≤ 9999) && l == 0) := by
  unfold ownB; rw [if_neg (by omega), if_neg (by omega), if_neg (by omega), if_pos rfl]
theorem ownB_2 {ns : List ByteArray} {n : Int} {s : ByteArray} {p : List Int} {l : Nat} (hn : n = 0) (hp : p.length = 0) : ownB ns 2 n s p l = (hasB ns s && l == 0) := by
  unfold ownB; rw [if_neg (by omega), if_neg (by omega), if_neg (by omega), if_neg (by omega), if_pos rfl]
theorem ownB_7 {ns : List ByteArray} {n : Int} {s : ByteArray} {p : List Int} {l : Nat} (hn : n = 0) (hs : s.size = 0) : ownB ns 7 n s p l = (l == 1) := by
  unfold ownB; rw [if_neg (by omega), if_neg (by omega), if_neg (by omega), if_neg (by omega), if_neg (by omega), if_pos rfl]
theorem ownB_8 {ns : List ByteArray} {n : Int} {s : ByteArray} {p : List Int} {l : Nat} (hn : n = 0) (hs : s.size = 0) : ownB ns 8 n s p l = (l == 2) := by
  unfold ownB; rw [if_neg (by omega), if_neg (by omega), if_neg (by omega), if_neg (by omega), if_neg (by omega), if_neg (by omega)]; rfl
theorem ownB_o {ns : List ByteArray} {k n : Int} {s : ByteArray} {p : List Int} {l : Nat} (h1 : ¬ k = 1) (h2 : ¬ k = 2) (h7 : ¬ k = 7) (hn : n = 0) (hs : s.size = 0) (hp : p.length = 0) : ownB ns k n s p l = (decide (3 ≤ k ∧ k ≤ 8) && l == 2) := by
  unfold ownB; rw [if_neg (by omega), if_neg (by omega), if_neg (by omega), if_neg h1, if_neg h2, if_neg h7]
theorem size_toList (s : ByteArray) : s.toList.length = s.size := by rw [Go.ByteArray.toList_eq]; rfl
theorem empty_size {s : ByteArray} (h : s.size = 0) : s.toList.isEmpty = true := by
  rw [List.isEmpty_iff, ← List.length_eq_zero_iff, size_toList]; exact h
theorem full_size {s : ByteArray} (h : s.size ≠ 0) : s.toList.isEmpty = false := by
  cases hx : s.toList.isEmpty with
  | false => rfl
  | true => rw [List.isEmpty_iff, ← List.length_eq_zero_iff, size_toList] at hx; exact absurd hx h

/-- Places 0 and 1 alone. -/
def pathB (p : List Int) : Bool := p.all fun x => x == 0 || x == 1

/-- A term is ok by names, at most so deep. -/
def termB (ns : List ByteArray) : Nat → Int → Int → ByteArray → List Int → TM → Bool
  | 0, _, _, _, _, _ => false
  | d + 1, k, n, s, p, f => (decide (tlen f ≤ 2) && decide (p.length ≤ 4)) && ((List.range (tlen f)).all (fun i => termB ns d (tkind f i) (tnum f i) (tname f i) (tpath f i) (tkid f i)) && (pathB p && ownB ns k n s p (tlen f)))

theorem pathB_no {p : List Int} {i : Nat} (h : i < p.length) (h0 : ¬ (0 ≤ p.getD i 0 ∧ p.getD i 0 ≤ 1)) : pathB p = false := by
  cases hn : pathB p with
  | false => rfl
  | true =>
    simp only [pathB, List.all_eq_true] at hn
    have := hn (p.getD i 0) (by simp [List.getD, h])
    simp only [Bool.or_eq_true, beq_iff_eq] at this
    omega
theorem pathB_yes {p : List Int} (ha : ∀ i, i < p.length → 0 ≤ p.getD i 0 ∧ p.getD i 0 ≤ 1) : pathB p = true := by
  simp only [pathB, List.all_eq_true]
  intro x hx
  obtain ⟨i, hi, rfl⟩ := List.getElem_of_mem hx
  have := ha i hi
  simp only [List.getD, List.getElem?_eq_getElem hi, Option.getD_some] at this
  simp only [Bool.or_eq_true, beq_iff_eq]
  omega

def kidB (ns : List ByteArray) (d : Nat) (f : TM) (i : Nat) : Bool := termB ns d (tkind f i) (tnum f i) (tname f i) (tpath f i) (tkid f i)

theorem termB_kid {ns : List ByteArray} {d : Nat} {k n : Int} {s : ByteArray} {p : List Int} {f : TM} {i : Nat} (h : i < tlen f) (hb : kidB ns d f i = false) : termB ns (d + 1) k n s p f = false := by
  have : (List.range (tlen f)).all (fun i => termB ns d (tkind f i) (tnum f i) (tname f i) (tpath f i) (tkid f i)) = false := by
    rw [List.all_eq_false]
    exact ⟨i, List.mem_range.2 h, by rw [show termB ns d (tkind f i) (tnum f i) (tname f i) (tpath f i) (tkid f i) = false from hb]; simp⟩
  simp [termB, this]
theorem termB_len {ns : List ByteArray} {d : Nat} {k n : Int} {s : ByteArray} {p : List Int} {f : TM} (h : 2 < tlen f) : termB ns (d + 1) k n s p f = false := by
  simp [termB, show ¬ tlen f ≤ 2 by omega]
theorem termB_plen {ns : List ByteArray} {d : Nat} {k n : Int} {s : ByteArray} {p : List Int} {f : TM} (h : 4 < p.length) : termB ns (d + 1) k n s p f = false := by
  simp [termB, show ¬ p.length ≤ 4 by omega]
theorem termB_path {ns : List ByteArray} {d : Nat} {k n : Int} {s : ByteArray} {p : List Int} {f : TM} (h : pathB p = false) : termB ns (d + 1) k n s p f = false := by
  simp [termB, h]
theorem termB_own {ns : List ByteArray} {d : Nat} {k n : Int} {s : ByteArray} {p : List Int} {f : TM} (h1 : tlen f ≤ 2) (h2 : p.length ≤ 4) (h3 : ∀ i, i < tlen f → kidB ns d f i = true) (h4 : pathB p = true) : termB ns (d + 1) k n s p f = ownB ns k n s p (tlen f) := by
  have : (List.range (tlen f)).all (fun i => termB ns d (tkind f i) (tnum f i) (tname f i) (tpath f i) (tkid f i)) = true := by
    rw [List.all_eq_true]
    intro i hi
    exact h3 i (List.mem_range.1 hi)
  simp only [termB, this, h4, h1, h2, decide_true, Bool.true_and]

set_option maxRecDepth 100000 in
set_option maxHeartbeats 4000000 in
theorem l12Term_any (ns : List ByteArray) (na : Option Addr) (nc : Nat) (hns : ns.length ≤ 1000000000) : ∀ (d : Nat) (k n : Int) (s : ByteArray) (p : List Int) (pa : Option Addr) (pc : Nat) (f : TM) (a : Option Addr) (c : Nat) (w : World), d ≤ 1000 → XA w 0 ns na → PA w 0 p pa → MA w 0 f a →
    Calls Tryz.prog 89 #[.slice na ns.length nc, .agg #[.int .i64 k, .int .i64 n, .string s, .slice pa p.length pc, .slice a (tlen f) c], .int .i64 d] w fun e w' => e = .returned (.bool (termB ns d k n s p f)) ∧ Ex w w' := by
  intro d
  induction d with
  | zero =>
    intro k n s p pa pc f a c w _ _ _ _
    go_enter Tryz.func89, Tryz.ntmps89
    go_wp2_with fail
    go_ret
    exact ⟨ret_b rfl, Ex.new _ _⟩
  | succ d ih =>
    intro k n s p pa pc f a c w hd hX hP hM
    have X : Hid (∀ w', Ex w w' → XA w' 0 ns na) := fun _ h => XA_below hX h
    have P : Hid (∀ w', Ex w w' → PA w' 0 p pa) := fun _ h => PA_below hP h
    have M : Hid (∀ w', Ex w w' → MA w' 0 f a) := fun _ h => MA_below hM h
    have I : Hid _ := ih
    have N : Hid (Ex w (w.alloc (.cells #[.int .i64 k, .int .i64 n, .string s, .slice pa p.length pc, .slice a (tlen f) c] 121))) := Ex.new _ _
    have C : Hid (∀ w', Ex (w.alloc (.cells #[.int .i64 k, .int .i64 n, .string s, .slice pa p.length pc, .slice a (tlen f) c] 121)) w' → w'.cell? ⟨w.heap.size, 0, none⟩ = some (.int .i64 k) ∧ w'.cell? ⟨w.heap.size, 1, none⟩ = some (.int .i64 n) ∧ w'.cell? ⟨w.heap.size, 2, none⟩ = some (.string s) ∧ w'.cell? ⟨w.heap.size, 3, none⟩ = some (.slice pa p.length pc) ∧ w'.cell? ⟨w.heap.size, 4, none⟩ = some (.slice a (tlen f) c)) := fun w' h => ⟨h.at (by simp), h.at (by simp), h.at (by simp), h.at (by simp), h.at (by simp)⟩
    have d0 : decide (((d + 1 : Nat) : Int) < 1) = false := by simp; omega
    clear hX hP hM ih
    by_cases h2 : 2 < tlen f
    · have HR : Hid (termB ns (d + 1) k n s p f = false) := termB_len h2
      have d1 : decide ((2 : Int) < (tlen f : Int)) = true := by simp; omega
      go_enter Tryz.func89, Tryz.ntmps89
      go_wp2_with fail
      go_ret
      exact ⟨ret_b HR.out.symm, N.out⟩
    have d1 : decide ((2 : Int) < (tlen f : Int)) = false := by simp; omega
    by_cases h4 : 4 < p.length
    · have HR : Hid (termB ns (d + 1) k n s p f = false) := termB_plen h4
      have d2 : decide ((4 : Int) < (p.length : Int)) = true := by simp; omega
      go_enter Tryz.func89, Tryz.ntmps89
      go_wp2_with fail
      go_ret
      exact ⟨ret_b HR.out.symm, N.out⟩
    have d2 : decide ((4 : Int) < (p.length : Int)) = false := by simp; omega
    obtain ⟨D, hD⟩ : ∃ D : Int, D = ((d + 1 : Nat) : Int) := ⟨_, rfl⟩
    have HD : Hid (D = ((d + 1 : Nat) : Int)) := hD
    rw [← hD] at d0 ⊢
    have d3 : D - 1 = (d : Int) := by omega
    have d4 : IntKind.i64.wrap (D - 1) = (d : Int) := by rw [d3]; exact IntWalk.i64_in _ (by omega)
    clear hD
    go_enter Tryz.func89, Tryz.ntmps89
    go_wp2_with fail
    go_loopw [7] (fun i wr => ∃ (j : Nat), j ≤ tlen f ∧ i = .int .i64 j ∧ (∀ l, l < j → kidB ns d f l = true) ∧ Ex (w.alloc (.cells #[.int .i64 k, .int .i64 n, .string s, .slice pa p.length pc, .slice a (tlen f) c] 121)) wr) (fun i _ => tlen f - (intOf i).toNat)
    case atStart => exact ⟨0, by omega, rfl, fun j hj => by omega, Ex.refl _⟩
    case round =>
      obtain ⟨j, hj, rfl, hall, hx⟩ := hrel
      have A : Hid (∀ l, l < j → kidB ns d f l = true) := hall
      have E : Hid (Ex (w.alloc (.cells #[.int .i64 k, .int .i64 n, .string s, .slice pa p.length pc, .slice a (tlen f) c] 121)) wr) := hx
      obtain ⟨c0, c1, c2, c3, c4⟩ := C.out wr hx
      clear hall hx
      by_cases hlt : j < tlen f
      · obtain ⟨b, o, rfl, _, hbs, hk⟩ := MA_at (M.out wr (N.out.trans E.out)) (by omega)
        obtain ⟨e0, e1, e2, ⟨pa', pc', e3, hp'⟩, a', c', e4, hm'⟩ := hk j hlt
        have HI : Hid (∀ w', Ex wr w' → Calls Tryz.prog 89 #[.slice na ns.length nc, .agg #[.int .i64 (tkind f j), .int .i64 (tnum f j), .string (tname f j), .slice pa' (tpath f j).length pc', .slice a' (tlen (tkid f j)) c'], .int .i64 d] w' fun e w'' => e = .returned (.bool (kidB ns d f j)) ∧ Ex w' w'') :=
          fun w' h => I.out _ _ _ _ _ _ _ _ _ w' (by omega) (X.out w' (N.out.trans (E.out.trans h))) (PA_below (PS_pa.1 hp'.1) h) (MA_below hm' h)
        have U : Hid (kidB ns d f j = true → ∀ l, l < j + 1 → kidB ns d f l = true) := fun h => upto_succ A.out h
        have V : Hid (kidB ns d f j = false → termB ns (d + 1) k n s p f = false) := termB_kid hlt
        clear hk hp' hm'
        go_wp2_with fail
        refine (HI.out _ (Ex.refl _)).mono ?_
        rintro e w1 ⟨rfl, hb1⟩
        cases hkb : kidB ns d f j with
        | false =>
          have HR : Hid (termB ns (d + 1) k n s p f = false) := V.out hkb
          go_wp2_with fail
          go_ret
          exact ⟨ret_b HR.out.symm, N.out.trans (E.out.trans hb1)⟩
        | true =>
          have HU : Hid _ := U.out hkb
          go_wp2_with fail
          go_roundw
          case rel => exact ⟨j + 1, by omega, by go_num, HU.out, E.out.trans hb1⟩
          case measure => simp [intOf]; omega
      · have KB : Hid (∀ l, l < tlen f → kidB ns d f l = true) := fun l hl => A.out l (by omega)
        clear A
        go_wp2_with fail
        go_loopw [8] (fun i wr => ∃ (j : Nat), j ≤ p.length ∧ i = .int .i64 j ∧ (∀ l, l < j → 0 ≤ p.getD l 0 ∧ p.getD l 0 ≤ 1) ∧ Ex (w.alloc (.cells #[.int .i64 k, .int .i64 n, .string s, .slice pa p.length pc, .slice a (tlen f) c] 121)) wr) (fun i _ => p.length - (intOf i).toNat)
        case atStart => exact ⟨0, by omega, rfl, fun j hj => by omega, E.out⟩
        case round =>
          obtain ⟨j2, hj2, rfl, hall, hx⟩ := hrel
          have A : Hid (∀ l, l < j2 → 0 ≤ p.getD l 0 ∧ p.getD l 0 ≤ 1) := hall
          clear E c0 c1 c2 c3 c4
          have E : Hid (Ex (w.alloc (.cells #[.int .i64 k, .int .i64 n, .string s, .slice pa p.length pc, .slice a (tlen f) c] 121)) wr) := hx
          obtain ⟨c0, c1, c2, c3, c4⟩ := C.out wr hx
          clear hall hx
          by_cases hlt2 : j2 < p.length
          · obtain ⟨b, o, rfl, hbs, _, hc⟩ := PA_at (P.out wr (N.out.trans E.out)) (by omega)
            have ck := hc j2 hlt2
            have U : Hid (decide (0 ≤ p.getD j2 0 ∧ p.getD j2 0 ≤ 1) = true → ∀ l, l < j2 + 1 → 0 ≤ p.getD l 0 ∧ p.getD l 0 ≤ 1) := fun h => upto_succ A.out (of_decide_eq_true h)
            have V : Hid (decide (0 ≤ p.getD j2 0 ∧ p.getD j2 0 ≤ 1) = false → termB ns (d + 1) k n s p f = false) := fun h => termB_path (pathB_no hlt2 (of_decide_eq_false h))
            obtain ⟨x, hx⟩ : ∃ x, p.getD j2 0 = x := ⟨_, rfl⟩
            rw [hx] at ck U V
            clear hx hc
            go_wp2_with fail
            refine (l6In_any x 0 1 wr).mono ?_
            rintro e w2 ⟨rfl, hb2⟩
            cases hd : decide (0 ≤ x ∧ x ≤ 1) with
            | false =>
              have HR : Hid (termB ns (d + 1) k n s p f = false) := V.out hd
              go_wp2_with fail
              go_ret
              exact ⟨ret_b HR.out.symm, N.out.trans (E.out.trans hb2)⟩
            | true =>
              have HU : Hid _ := U.out hd
              clear hd U V
              go_wp2_with fail
              go_roundw
              case rel => exact ⟨j2 + 1, by omega, by go_num, HU.out, E.out.trans hb2⟩
              case measure => simp [intOf]; omega
          · have O : Hid (termB ns (d + 1) k n s p f = ownB ns k n s p (tlen f)) := termB_own (by omega) (by omega) KB.out (pathB_yes fun l hl => A.out l (by omega))
            have F : Hid (Ex w wr) := N.out.trans E.out
            clear A KB I M P
            by_cases k1 : k = 1
            · subst k1
              by_cases hs : s.size ≠ 0
              · have s1 : s.toList.isEmpty = false := full_size hs
                have HR : Hid (ownB ns 1 n s p (tlen f) = false) := ownB_s (by decide) hs
                go_wp2_with fail
                go_ret
                exact ⟨ret_b (O.out.trans HR.out).symm, F.out⟩
              have hs0 : s.size = 0 := by omega
              have s1 : s.toList.isEmpty = true := empty_size hs0
              by_cases hp : p.length ≠ 0
              · have p1 : decide ((0 : Int) < (p.length : Int)) = true := decide_eq_true (by omega)
                have HR : Hid (ownB ns 1 n s p (tlen f) = false) := ownB_p (by decide) hp
                go_wp2_with fail
                go_ret
                exact ⟨ret_b (O.out.trans HR.out).symm, F.out⟩
              have hp0 : p.length = 0 := by omega
              have p1 : decide ((0 : Int) < (p.length : Int)) = false := decide_eq_false (by omega)
              go_wp2_with fail
              refine (l6In_any n 0 9999 _).mono ?_
              rintro e w2 ⟨rfl, hb2⟩
              have c9 := (C.out w2 (E.out.trans hb2)).2.2.2.2
              cases hd : decide (0 ≤ n ∧ n ≤ 9999) with
              | false =>
                have HR : Hid (ownB ns 1 n s p (tlen f) = false) := by show _ = _; rw [ownB_1 hs0 hp0, hd]; rfl
                go_wp2_with fail
                go_ret
                exact ⟨ret_b (O.out.trans HR.out).symm, F.out.trans hb2⟩
              | true =>
                by_cases hl : tlen f = 0
                · have l1 : ((tlen f : Int) == 0) = true := by simp; omega
                  have l0 : (tlen f == 0) = true := by simp [hl]
                  have HR : Hid (ownB ns 1 n s p (tlen f) = true) := by show _ = _; rw [ownB_1 hs0 hp0, hd, l0]; rfl
                  go_wp2_with fail
                  go_ret
                  exact ⟨ret_b (O.out.trans HR.out).symm, F.out.trans hb2⟩
                · have l1 : ((tlen f : Int) == 0) = false := by simp; omega
                  have l0 : (tlen f == 0) = false := by simp [hl]
                  have HR : Hid (ownB ns 1 n s p (tlen f) = false) := by show _ = _; rw [ownB_1 hs0 hp0, hd, l0]; rfl
                  go_wp2_with fail
                  go_ret
                  exact ⟨ret_b (O.out.trans HR.out).symm, F.out.trans hb2⟩
            by_cases k2 : k = 2
            · subst k2
              by_cases hn : n ≠ 0
              · have n1 : (n != 0) = true := by simp [hn]
                have HR : Hid (ownB ns 2 n s p (tlen f) = false) := ownB_n (by decide) hn
                go_wp2_with fail
                go_ret
                exact ⟨ret_b (O.out.trans HR.out).symm, F.out⟩
              have hn0 : n = 0 := by omega
              have n1 : (n != 0) = false := by simp [hn0]
              by_cases hp : p.length ≠ 0
              · have p1 : decide ((0 : Int) < (p.length : Int)) = true := decide_eq_true (by omega)
                have HR : Hid (ownB ns 2 n s p (tlen f) = false) := ownB_p (by decide) hp
                go_wp2_with fail
                go_ret
                exact ⟨ret_b (O.out.trans HR.out).symm, F.out⟩
              have hp0 : p.length = 0 := by omega
              have p1 : decide ((0 : Int) < (p.length : Int)) = false := decide_eq_false (by omega)
              go_wp2_with fail
              refine (l12Has_any ns na nc s _ hns (X.out _ F.out)).mono ?_
              rintro e w2 ⟨rfl, hb2⟩
              have c9 := (C.out w2 (E.out.trans hb2)).2.2.2.2
              cases hd : hasB ns s with
              | false =>
                have HR : Hid (ownB ns 2 n s p (tlen f) = false) := by show _ = _; rw [ownB_2 hn0 hp0, hd]; rfl
                go_wp2_with fail
                go_ret
                exact ⟨ret_b (O.out.trans HR.out).symm, F.out.trans hb2⟩
              | true =>
                by_cases hl : tlen f = 0
                · have l1 : ((tlen f : Int) == 0) = true := by simp; omega
                  have l0 : (tlen f == 0) = true := by simp [hl]
                  have HR : Hid (ownB ns 2 n s p (tlen f) = true) := by show _ = _; rw [ownB_2 hn0 hp0, hd, l0]; rfl
                  go_wp2_with fail
                  go_ret
                  exact ⟨ret_b (O.out.trans HR.out).symm, F.out.trans hb2⟩
                · have l1 : ((tlen f : Int) == 0) = false := by simp; omega
                  have l0 : (tlen f == 0) = false := by simp [hl]
                  have HR : Hid (ownB ns 2 n s p (tlen f) = false) := by show _ = _; rw [ownB_2 hn0 hp0, hd, l0]; rfl
                  go_wp2_with fail
                  go_ret
                  exact ⟨ret_b (O.out.trans HR.out).symm, F.out.trans hb2⟩
            by_cases k7 : k = 7
            · subst k7
              by_cases hn : n ≠ 0
              · have n1 : (n != 0) = true := by simp [hn]
                have HR : Hid (ownB ns 7 n s p (tlen f) = false) := ownB_n (by decide) hn
                go_wp2_with fail
                go_ret
                exact ⟨ret_b (O.out.trans HR.out).symm, F.out⟩
              have hn0 : n = 0 := by omega
              have n1 : (n != 0) = false := by simp [hn0]
              by_cases hs : s.size ≠ 0
              · have s1 : s.toList.isEmpty = false := full_size hs
                have HR : Hid (ownB ns 7 n s p (tlen f) = false) := ownB_s (by decide) hs
                go_wp2_with fail
                go_ret
                exact ⟨ret_b (O.out.trans HR.out).symm, F.out⟩
              have hs0 : s.size = 0 := by omega
              have s1 : s.toList.isEmpty = true := empty_size hs0
              by_cases hl : tlen f = 1
              · have l1 : ((tlen f : Int) == 1) = true := by simp; omega
                have l0 : (tlen f == 1) = true := by simp [hl]
                have HR : Hid (ownB ns 7 n s p (tlen f) = true) := by show _ = _; rw [ownB_7 hn0 hs0, l0]
                go_wp2_with fail
                go_ret
                exact ⟨ret_b (O.out.trans HR.out).symm, F.out⟩
              · have l1 : ((tlen f : Int) == 1) = false := by simp; omega
                have l0 : (tlen f == 1) = false := by simp [hl]
                have HR : Hid (ownB ns 7 n s p (tlen f) = false) := by show _ = _; rw [ownB_7 hn0 hs0, l0]
                go_wp2_with fail
                go_ret
                exact ⟨ret_b (O.out.trans HR.out).symm, F.out⟩
            by_cases k8 : k = 8
            · subst k8
              by_cases hn : n ≠ 0
              · have n1 : (n != 0) = true := by simp [hn]
                have HR : Hid (ownB ns 8 n s p (tlen f) = false) := ownB_n (by decide) hn
                go_wp2_with fail
                go_ret
                exact ⟨ret_b (O.out.trans HR.out).symm, F.out⟩
              have hn0 : n = 0 := by omega
              have n1 : (n != 0) = false := by simp [hn0]
              by_cases hs : s.size ≠ 0
              · have s1 : s.toList.isEmpty = false := full_size hs
                have HR : Hid (ownB ns 8 n s p (tlen f) = false) := ownB_s (by decide) hs
                go_wp2_with fail
                go_ret
                exact ⟨ret_b (O.out.trans HR.out).symm, F.out⟩
              have hs0 : s.size = 0 := by omega
              have s1 : s.toList.isEmpty = true := empty_size hs0
              go_wp2_with fail
              refine (l6In_any 8 3 8 _).mono ?_
              rintro e w2 ⟨rfl, hb2⟩
              have c9 := (C.out w2 (E.out.trans hb2)).2.2.2.2
              by_cases hl : tlen f = 2
              · have l1 : ((tlen f : Int) == 2) = true := by simp; omega
                have l0 : (tlen f == 2) = true := by simp [hl]
                have HR : Hid (ownB ns 8 n s p (tlen f) = true) := by show _ = _; rw [ownB_8 hn0 hs0, l0]
                go_wp2_with fail
                go_ret
                exact ⟨ret_b (O.out.trans HR.out).symm, F.out.trans hb2⟩
              · have l1 : ((tlen f : Int) == 2) = false := by simp; omega
                have l0 : (tlen f == 2) = false := by simp [hl]
                have HR : Hid (ownB ns 8 n s p (tlen f) = false) := by show _ = _; rw [ownB_8 hn0 hs0, l0]
                go_wp2_with fail
                go_ret
                exact ⟨ret_b (O.out.trans HR.out).symm, F.out.trans hb2⟩
            have q1 : (k == 1) = false := by simp [k1]
            have q2 : (k == 2) = false := by simp [k2]
            have q7 : (k == 7) = false := by simp [k7]
            have q8 : (k == 8) = false := by simp [k8]
            have r1 : (k != 1) = true := by simp [k1]
            have r2 : (k != 2) = true := by simp [k2]
            by_cases hn : n ≠ 0
            · have n1 : (n != 0) = true := by simp [hn]
              have HR : Hid (ownB ns k n s p (tlen f) = false) := ownB_n k1 hn
              go_wp2_with fail
              go_ret
              exact ⟨ret_b (O.out.trans HR.out).symm, F.out⟩
            have hn0 : n = 0 := by omega
            have n1 : (n != 0) = false := by simp [hn0]
            by_cases hs : s.size ≠ 0
            · have s1 : s.toList.isEmpty = false := full_size hs
              have HR : Hid (ownB ns k n s p (tlen f) = false) := ownB_s k2 hs
              go_wp2_with fail
              go_ret
              exact ⟨ret_b (O.out.trans HR.out).symm, F.out⟩
            have hs0 : s.size = 0 := by omega
            have s1 : s.toList.isEmpty = true := empty_size hs0
            by_cases hp : p.length ≠ 0
            · have p1 : decide ((0 : Int) < (p.length : Int)) = true := decide_eq_true (by omega)
              have HR : Hid (ownB ns k n s p (tlen f) = false) := ownB_p (by omega) hp
              go_wp2_with fail
              go_ret
              exact ⟨ret_b (O.out.trans HR.out).symm, F.out⟩
            have hp0 : p.length = 0 := by omega
            have p1 : decide ((0 : Int) < (p.length : Int)) = false := decide_eq_false (by omega)
            go_wp2_with fail
            refine (l6In_any k 3 8 _).mono ?_
            rintro e w2 ⟨rfl, hb2⟩
            have c9 := (C.out w2 (E.out.trans hb2)).2.2.2.2
            cases hd : decide (3 ≤ k ∧ k ≤ 8) with
            | false =>
              have HR : Hid (ownB ns k n s p (tlen f) = false) := by show _ = _; rw [ownB_o k1 k2 k7 hn0 hs0 hp0, hd]; rfl
              go_wp2_with fail
              go_ret
              exact ⟨ret_b (O.out.trans HR.out).symm, F.out.trans hb2⟩
            | true =>
              by_cases hl : tlen f = 2
              · have l1 : ((tlen f : Int) == 2) = true := by simp; omega
                have l0 : (tlen f == 2) = true := by simp [hl]
                have HR : Hid (ownB ns k n s p (tlen f) = true) := by show _ = _; rw [ownB_o k1 k2 k7 hn0 hs0 hp0, hd, l0]; rfl
                go_wp2_with fail
                go_ret
                exact ⟨ret_b (O.out.trans HR.out).symm, F.out.trans hb2⟩
              · have l1 : ((tlen f : Int) == 2) = false := by simp; omega
                have l0 : (tlen f == 2) = false := by simp [hl]
                have HR : Hid (ownB ns k n s p (tlen f) = false) := by show _ = _; rw [ownB_o k1 k2 k7 hn0 hs0 hp0, hd, l0]; rfl
                go_wp2_with fail
                go_ret
                exact ⟨ret_b (O.out.trans HR.out).symm, F.out.trans hb2⟩

end Go.Proofs.YtldbmlojgakieaaGreatDoor
