/- Walks: a value copied by the specification; whether it is of some type. -/
import Derived.Test.YtngheeeadekdmaaDoorV10

import Derived.Test.YtngheeeadekdmaaDoorD6

namespace Go.Proofs.YtngheeeadekdmaaDoor

open Go.RowKit Go.Deep

attribute [local go_sem ↓] Go.wp_at_zero Go.wp_at_succ

/-- A list of values lies in a block of its own that may be written, and what is behind it lies elsewhere, all from block lo on. -/
def VT (w : World) (lo : Nat) (f : F) (a : Option Addr) : Prop := len f = 0 ∨ ∃ g cur, a = some ⟨g, 0, none⟩ ∧ lo ≤ g ∧ w.heap[g]? = some (.cells cur 25 (0, 0)) ∧
  ∀ i, i < len f → cur[i * 2]? = some (.int .i64 (num f i)) ∧ ∃ a' c', cur[i * 2 + 1]? = some (.slice a' (len (kid f i)) c') ∧ VS w (fun b => lo ≤ b ∧ b ≠ g) (kid f i) a'

theorem cell_cur {w : World} {g : Nat} {cur : Array Value} {t : TypeId} (h : w.heap[g]? = some (.cells cur t (0, 0))) (j : Nat) : w.cell? ⟨g, j, none⟩ = cur[j]? := by simp [World.cell?, h]
theorem free_cur {w : World} {g : Nat} {cur : Array Value} {t : TypeId} (h : w.heap[g]? = some (.cells cur t (0, 0))) (j : Nat) : w.frozen? ⟨g, j, none⟩ = false := by simp [World.frozen?, h]

theorem VT.va {w : World} {lo : Nat} {f : F} {a : Option Addr} (h : VT w lo f a) : VA w lo f a := by
  rcases h with h | ⟨g, cur, e, hg, hc, hk⟩
  · exact Or.inl h
  · subst e
    refine VS_mk hg fun i hi => ?_
    obtain ⟨h1, a', c', h2, h3⟩ := hk i hi
    exact ⟨by rw [Nat.zero_add, cell_cur hc]; exact h1, a', c', by rw [Nat.zero_add, cell_cur hc]; exact h2, VS_mono h3 fun b _ hb => hb.1⟩

theorem VT.kp {w w' : World} {lo : Nat} {f : F} {a : Option Addr} (h : VT w lo f a) (hk : Kp lo w w') : VT w' lo f a := by
  rcases h with h | ⟨g, cur, e, hg, hc, hkk⟩
  · exact Or.inl h
  · refine Or.inr ⟨g, cur, e, hg, (hk.block g hg (lt_of_block hc)).trans hc, fun i hi => ?_⟩
    obtain ⟨h1, a', c', h2, h3⟩ := hkk i hi
    exact ⟨h1, a', c', h2, VS_ks h3 fun b hb hlt => hk.block b hb.1 hlt⟩

theorem VT.lo {w : World} {lo lo' : Nat} {f : F} {a : Option Addr} (h : VT w lo f a) (hl : lo' ≤ lo) : VT w lo' f a := by
  rcases h with h | ⟨g, cur, e, hg, hc, hkk⟩
  · exact Or.inl h
  · refine Or.inr ⟨g, cur, e, by omega, hc, fun i hi => ?_⟩
    obtain ⟨h1, a', c', h2, h3⟩ := hkk i hi
    exact ⟨h1, a', c', h2, VS_mono h3 fun b _ hb => ⟨by omega, hb.2⟩⟩

theorem kidsV_step {wr w1 w2 : World} {base k gg cap k2 out oo : Nat} {e : TypeId} {v u : Value} {cs : List Value} {f : F} {a2 : Option Addr} {o' : Obj}
    (O : wr.ownsRow base e 2 v k cs) (hb2 : Ex wr w1) (hgrow : (w1.alloc o').grownBy w2 v.ownBlock) (hat : v.ownBlock = some gg ∨ gg = w1.heap.size + 1) (hout : out < base)
    (KI : ∀ j, j < k → cs[j * 2]? = some (.int .i64 (num f j)) ∧ ∃ a' c', cs[j * 2 + 1]? = some (.slice a' (len (kid f j)) c') ∧ VS wr (fun b => base ≤ b ∧ v.ownBlock ≠ some b) (kid f j) a')
    (ht2 : VA w1 wr.heap.size (kid f k) a2) (hbase : base ≤ wr.heap.size) :
    ∀ j, j < k + 1 → (cs ++ [Value.int .i64 (num f k), Value.slice a2 (len (kid f k)) k2])[j * 2]? = some (.int .i64 (num f j)) ∧ ∃ a' c', (cs ++ [Value.int .i64 (num f k), Value.slice a2 (len (kid f k)) k2])[j * 2 + 1]? = some (.slice a' (len (kid f j)) c') ∧ VS (w2.setCell ⟨out, oo, none⟩ u) (fun b => base ≤ b ∧ (Value.slice (some ⟨gg, 0, none⟩) (k + 1) cap).ownBlock ≠ some b) (kid f j) a' := by
  have hcs : cs.length = k * 2 := O.1
  have hvb : ∀ g, v.ownBlock = some g → g < wr.heap.size := by
    obtain ⟨_, ⟨rfl, _⟩ | ⟨g, c, cur, rfl, hg, hgc, _⟩⟩ := O
    · intro g hg; cases hg
    · intro g' hg'; cases hg'; exact lt_of_block hgc
  have move : ∀ (g : F) (a' : Option Addr), VS w1 (fun b => base ≤ b ∧ v.ownBlock ≠ some b) g a' → VS (w2.setCell ⟨out, oo, none⟩ u) (fun b => base ≤ b ∧ (Value.slice (some ⟨gg, 0, none⟩) (k + 1) cap).ownBlock ≠ some b) g a' := by
    intro g a' h
    have h1 := VS_mono (S' := fun b => base ≤ b ∧ v.ownBlock ≠ some b ∧ b < w1.heap.size) h fun b hb hs => ⟨hs.1, hs.2, hb⟩
    have h2 : VS w2 (fun b => base ≤ b ∧ v.ownBlock ≠ some b ∧ b < w1.heap.size) g a' := VS_ks h1 fun b hs hlt => (hgrow.block b (by rw [World.size_alloc]; omega) (fun e => hs.2.1 e.symm)).trans ((Ex.new _ _).block b hlt)
    have h3 : VS (w2.setCell ⟨out, oo, none⟩ u) (fun b => base ≤ b ∧ v.ownBlock ≠ some b ∧ b < w1.heap.size) g a' := VS_ks h2 fun b hs _ => Below.heap_setCell _ _ _ _ (by show b ≠ out; omega)
    refine VS_mono h3 fun b _ hs => ⟨hs.1, fun e => ?_⟩
    have e' : gg = b := by simpa [Value.ownBlock] using e
    rcases hat with h | h
    · exact hs.2.1 (by rw [h, e'])
    · have := hs.2.2; omega
  intro j hj
  by_cases h : j < k
  · obtain ⟨h0, a', c', h1, h2⟩ := KI j h
    exact ⟨by rw [List.getElem?_append_left (by omega)]; exact h0, a', c', by rw [List.getElem?_append_left (by omega)]; exact h1, move _ _ (VS_ks h2 fun b _ hlt => hb2.block b hlt)⟩
  · have e : j = k := by omega
    subst e
    refine ⟨by rw [List.getElem?_append_right (by omega)]; simp [hcs], a2, k2, by rw [List.getElem?_append_right (by omega)]; simp [hcs], move _ _ (VS_mono ht2 fun b _ hb => ⟨Nat.le_trans hbase hb, fun e => by have := hvb b e; omega⟩)⟩

/-- What l1Anew tells. -/
def AnPost (n : Int) (f : F) (w : World) (e : Ending) (w' : World) : Prop := ∃ a' c', e = .returned (.agg #[.int .i64 n, .slice a' (len f) c']) ∧ VT w' w.heap.size f a' ∧ Ex w w'

theorem any_same (n : Int) (f : F) : ((sh 4 f).isSome = true → ∀ u, sh 4 f = some u → valOk u n f = (vType 4 n f).isSome) ∧ ((sh 4 f).isSome = false → (vType 4 n f).isSome = false) := by
  refine ⟨fun _ u hu => ?_, fun h => ?_⟩
  · unfold valOk
    cases hv : vType 4 n f with
    | none => simp [ofType]
    | some t =>
      have := vType_sh 4 n f t hv
      rw [hu] at this
      cases this
      simp [vType_fits 4 n f u hv, ofType, eqT_refl]
  · cases hv : vType 4 n f with
    | none => rfl
    | some t => rw [vType_sh 4 n f t hv] at h; cases h

set_option maxRecDepth 100000 in
set_option maxHeartbeats 2000000 in
theorem l1Any_any (n : Int) (f : F) (a : Option Addr) (c lo : Nat) (w : World) (hl : len f ≤ 1000000000) (hs : Sm f) (hV : VA w lo f a) :
    Calls Tryd.prog 18 #[.agg #[.int .i64 n, .slice a (len f) c]] w fun e w' => e = .returned (.bool (vType 4 n f).isSome) ∧ Ex w w' := by
  have V : Hid (∀ w', Ex w w' → VA w' lo f a) := fun _ h => VA_below hV h
  have SM : Hid (len f ≤ 1000000000 ∧ Sm f) := ⟨hl, hs⟩
  have Q : Hid _ := any_same n f
  clear hV hs hl
  generalize (vType 4 n f).isSome = z at *
  go_enter Tryd.func18, Tryd.ntmps18
  go_wp2_with fail
  refine (l1Of_any 4 4 n f a c lo _ rfl (by omega) (V.out _ (Ex.new _ _))).mono ?_
  rintro e w1 ⟨a1, m1, c1, rfl, hu, hb1⟩
  have x1 : Ex w w1 := (Ex.new _ _).trans hb1
  have q0 : w1.cell? ⟨w.heap.size, 0, none⟩ = some (.int .i64 n) := hb1.at (by simp)
  have q1 : w1.cell? ⟨w.heap.size, 1, none⟩ = some (.slice a (len f) c) := hb1.at (by simp)
  have z1 : w.heap.size < w1.heap.size := World.block_lt_of_cell? _ _ q0
  cases hsh : sh 4 f with
  | none =>
    have hz := Q.out.2 (by rw [hsh]; rfl)
    subst hz
    simp only [Option.isSome_none]
    clear hu hsh
    go_wp2_with fail
    go_ret
    exact ⟨rfl, x1.alloc _⟩
  | some u =>
    obtain ⟨hm, ht⟩ := hu u hsh
    subst hm
    have HZ : Hid (valOk u n f = z) := Q.out.1 (by rw [hsh]; rfl) u hsh
    have T1 : Hid _ := ht
    simp only [Option.isSome_some]
    clear hu ht hsh
    go_wp2_with fail
    refine (sValOk_any u n f a a1 c c1 lo _ _ SM.out.1 SM.out.2 (V.out _ (x1.alloc _)) (TA_below T1.out (Ex.new _ _))).mono ?_
    rintro e w2 ⟨rfl, hb2⟩
    go_wp2_with fail
    go_ret
    exact ⟨ret_b HZ.out, (x1.alloc _).trans hb2⟩

end Go.Proofs.YtngheeeadekdmaaDoor
