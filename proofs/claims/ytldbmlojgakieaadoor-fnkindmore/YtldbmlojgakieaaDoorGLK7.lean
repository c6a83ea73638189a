/- A region that draws its order, by what holds whatever has come up so far. A list of names and one of types, each laid anew with one more, and a call with both: whatever order is drawn. The operations of that region, one by one. That region, whatever order is drawn. -/
import Derived.Test.YtldbmlojgakieaaDoorGD1
import Derived.Deep.AppendLies
import Derived.Test.YtldbmlojgakieaaDoorGBD2
import Derived.WalkKit
import Derived.Test.YtldbmlojgakieaaDoorGLK4
namespace Go.Proofs.YtldbmlojgakieaaDoor

open Go.RowKit Go.Deep

theorem ready_mem {ops : Array Oper} {L : Array Bool} {i : Nat} (h : i ∈ Region.ready .any ops L) : i < ops.size ∧ L.getD i true = false := by
  unfold Region.ready at h
  rw [List.mem_filter] at h
  have h2 := h.2
  rw [Bool.and_eq_true] at h2
  exact ⟨List.mem_range.1 h.1, by simpa using h2.1⟩
theorem ready_after {ops : Array Oper} {L : Array Bool} {i : Nat} (h : i ∈ Region.ready .any ops L) {o : Oper} (ho : ops[i]? = some o) : o.after.all (fun e => !Region.binds .any e || L.getD e.on false) = true := by
  unfold Region.ready at h
  rw [List.mem_filter] at h
  have h2 := h.2
  rw [Bool.and_eq_true, ho] at h2
  simpa using h2.2
theorem ready_intro {ops : Array Oper} {L : Array Bool} {i : Nat} (hi : i < ops.size) (h0 : L.getD i true = false) {o : Oper} (ho : ops[i]? = some o) (ha : o.after.all (fun e => !Region.binds .any e || L.getD e.on false) = true) : i ∈ Region.ready .any ops L := by
  unfold Region.ready
  rw [List.mem_filter]
  refine ⟨List.mem_range.2 hi, ?_⟩
  rw [Bool.and_eq_true, ho]
  exact ⟨by rw [h0]; rfl, by simpa using ha⟩
theorem count_less {L : Array Bool} {i : Nat} (h : L.getD i true = false) : (L.setIfInBounds i true).toList.count false + 1 ≤ L.toList.count false := by
  have hi : i < L.size := by
    by_cases hi : i < L.size
    · exact hi
    · rw [Array.getD_eq_getD_getElem?, Array.getElem?_eq_none (by omega)] at h; cases h
  have hv : L.toList[i]'(by simpa using hi) = false := by
    rw [Array.getD_eq_getD_getElem?, Array.getElem?_eq_getElem hi] at h
    simpa using h
  have hc : 0 < L.toList.count false := List.count_pos_iff.2 (hv ▸ List.getElem_mem _)
  rw [Array.toList_setIfInBounds, List.count_set (by simpa using hi), hv, if_pos (by rfl), if_neg (by simp)]
  omega

/-- Whatever comes up keeps what holds: so it holds at the end. -/
theorem wpAny_inv {P : Program} {ops : Array Oper} {Q : Exit → Act → World → Prop} {I : Array Bool → Act → World → Prop}
    (step : ∀ L a w i, I L a w → i ∈ Region.ready .any ops L → wpOp P ops Q i (fun a' w' => I (L.setIfInBounds i true) a' w') a w)
    (fin : ∀ L a w, I L a w → Region.ready .any ops L = [] → Q .normal a w) :
    ∀ fuel L a w, I L a w → L.toList.count false ≤ fuel → wpAny P .any ops Q fuel L a w
  | 0, L, a, w, h, hf => by
    have hr : Region.ready .any ops L = [] := by
      apply List.eq_nil_iff_forall_not_mem.2
      intro i hi
      have := count_less (ready_mem hi).2
      omega
    exact ⟨hr, fin L a w h hr⟩
  | fuel + 1, L, a, w, h, hf => ⟨fun hr => fin L a w h hr, fun i hi => wpOp_mono (fun a' w' h' => wpAny_inv step fin fuel _ a' w' h' (by have := count_less (ready_mem hi).2; omega)) (step L a w i h hi)⟩

/-- A frame some of whose slots are written. -/
def putAll (a : Act) (val : Nat → Value) : List Nat → Act
  | [] => a
  | s :: ss => (putAll a val ss).put (some s) (val s)
def upd {α : Type} (f : Nat → α) (k : Nat) (v : α) : Nat → α := fun j => if j = k then v else f j
theorem upd_at {α : Type} (f : Nat → α) (k : Nat) (v : α) : upd f k v k = v := if_pos rfl
theorem upd_else {α : Type} (f : Nat → α) {k j : Nat} (v : α) (h : j ≠ k) : upd f k v j = f j := if_neg h
theorem upd_self {α : Type} (f : Nat → α) (k : Nat) : upd f k (f k) = f := by
  funext j; unfold upd; split
  · rename_i e; rw [e]
  · rfl
theorem putAll_size (a : Act) (val : Nat → Value) : ∀ ss, (putAll a val ss).tmps.size = a.tmps.size
  | [] => rfl
  | s :: ss => by show ((putAll a val ss).tmps.setIfInBounds s (val s)).size = _; rw [Array.size_setIfInBounds, putAll_size a val ss]
theorem putAll_defers (a : Act) (val : Nat → Value) : ∀ ss, (putAll a val ss).defers = a.defers
  | [] => rfl
  | _ :: ss => putAll_defers a val ss
theorem putAll_at (a : Act) (val : Nat → Value) (t : Nat) (ht : t < a.tmps.size) : ∀ ss, (putAll a val ss).tmps[t]? = if t ∈ ss then some (val t) else a.tmps[t]?
  | [] => by simp [putAll]
  | s :: ss => by
    show ((putAll a val ss).tmps.setIfInBounds s (val s))[t]? = _
    rw [Array.getElem?_setIfInBounds, putAll_size]
    by_cases e : s = t
    · subst e; rw [if_pos rfl, if_pos ht, if_pos (List.mem_cons_self ..)]
    · rw [if_neg e, putAll_at a val t ht ss]
      simp [List.mem_cons, show ¬ t = s from fun h => e h.symm]
theorem putAll_in {a : Act} {val : Nat → Value} {t : Nat} {ss : List Nat} (ht : t < a.tmps.size) (h : t ∈ ss) : (putAll a val ss).eval (.tmp t) = val t := by
  show (putAll a val ss).tmps.getD t undef = _
  rw [Array.getD_eq_getD_getElem?, putAll_at a val t ht, if_pos h]; rfl
theorem putAll_out {a : Act} {val : Nat → Value} {t : Nat} {ss : List Nat} (ht : t < a.tmps.size) (h : t ∉ ss) : (putAll a val ss).eval (.tmp t) = a.eval (.tmp t) := by
  show (putAll a val ss).tmps.getD t undef = a.tmps.getD t undef
  rw [Array.getD_eq_getD_getElem?, putAll_at a val t ht, if_neg h, Array.getD_eq_getD_getElem?]
theorem putAll_put {a : Act} {val : Nat → Value} {t : Nat} {ss : List Nat} (v : Value) (ht : t < a.tmps.size) (h : t ∈ ss) : (putAll a val ss).put (some t) v = putAll a (upd val t v) ss := by
  have e : ((putAll a val ss).tmps.setIfInBounds t v) = (putAll a (upd val t v) ss).tmps := by
    apply Array.ext
    · rw [Array.size_setIfInBounds, putAll_size, putAll_size]
    · intro j h1 h2
      have hj : j < a.tmps.size := by rw [putAll_size] at h2; exact h2
      apply Option.some.inj
      rw [← Array.getElem?_eq_getElem h1, ← Array.getElem?_eq_getElem h2, Array.getElem?_setIfInBounds, putAll_at _ _ _ hj, putAll_at _ _ _ hj, putAll_size]
      by_cases ej : t = j
      · subst ej; rw [if_pos rfl, if_pos ht, if_pos h, upd_at]
      · rw [if_neg ej]
        split
        · rw [upd_else _ _ (fun h => ej h.symm)]
        · rfl
  show ({ tmps := (putAll a val ss).tmps.setIfInBounds t v, defers := (putAll a val ss).defers } : Act) = _
  rw [e, putAll_defers, ← putAll_defers a (upd val t v) ss]

/-! Blocks that are made and written in the region: each has a part of its own. -/
def FamOk (lo : Nat) (w : World) (fam : Nat → Option Nat) : Prop := (∀ r g, fam r = some g → lo ≤ g ∧ g < w.heap.size) ∧ ∀ r s g, fam r = some g → fam s = some g → r = s
theorem FamOk.none (lo : Nat) (w : World) : FamOk lo w (fun _ => none) := ⟨fun _ _ h => by (cases h), fun _ _ _ h => by cases h⟩
theorem FamOk.ex {lo : Nat} {w w' : World} {fam : Nat → Option Nat} (h : FamOk lo w fam) (hx : Ex w w') : FamOk lo w' fam := ⟨fun r g hg => ⟨(h.1 r g hg).1, Nat.lt_of_lt_of_le (h.1 r g hg).2 hx.size⟩, h.2⟩

structure Turn (r g : Nat) (fam : Nat → Option Nat) (w w' : World) : Prop where
  os : w'.os = w.os
  tape : w'.tape = w.tape
  output : w'.output = w.output
  size : w.heap.size ≤ w'.heap.size
  block : ∀ k, k < w.heap.size → some k ≠ fam r → w'.heap[k]? = w.heap[k]?
  spot : fam r = some g ∨ w.heap.size ≤ g
  lt : g < w'.heap.size
theorem Turn.fam {r g lo : Nat} {fam : Nat → Option Nat} {w w' : World} (h : Turn r g fam w w') (hf : FamOk lo w fam) (hlo : lo ≤ w.heap.size) : FamOk lo w' (upd fam r (some g)) := by
  have key : ∀ s, s ≠ r → fam s ≠ some g := fun s hs e => by
    rcases h.spot with h1 | h1
    · exact hs (hf.2 s r g e h1)
    · have := (hf.1 s g e).2; omega
  refine ⟨fun s k hk => ?_, fun s t k h1 h2 => ?_⟩
  · unfold upd at hk
    split at hk
    · cases hk
      refine ⟨?_, h.lt⟩
      rcases h.spot with h1 | h1
      · exact (hf.1 r g h1).1
      · omega
    · exact ⟨(hf.1 s k hk).1, Nat.lt_of_lt_of_le (hf.1 s k hk).2 h.size⟩
  · unfold upd at h1 h2
    split at h1 <;> split at h2
    · rename_i e1 e2; rw [e1, e2]
    · rename_i e1 e2; cases h1; exact absurd h2 (key t e2)
    · rename_i e1 e2; cases h2; exact absurd h1 (key s e1)
    · exact hf.2 s t k h1 h2
theorem Turn.ex {r g : Nat} {fam : Nat → Option Nat} {w0 w w' : World} (h : Turn r g fam w w') (hf : FamOk w0.heap.size w fam) (hx : Ex w0 w) : Ex w0 w' :=
  ⟨h.os.trans hx.os, h.tape.trans hx.tape, h.output.trans hx.output, Nat.le_trans hx.size h.size, fun k hk => (h.block k (Nat.lt_of_lt_of_le hk hx.size) (fun e => by have := (hf.1 r k e.symm).1; omega)).trans (hx.block k hk)⟩
theorem Turn.kept {r g lo s k : Nat} {fam : Nat → Option Nat} {w w' : World} (h : Turn r g fam w w') (hf : FamOk lo w fam) (hs : s ≠ r) (hk : fam s = some k) : w'.heap[k]? = w.heap[k]? :=
  h.block k (hf.1 s k hk).2 fun e => hs (hf.2 s r k hk e.symm)
theorem Turn.of_ex {r g : Nat} {fam : Nat → Option Nat} {w w' : World} (hx : Ex w w') (h1 : w.heap.size ≤ g) (h2 : g < w'.heap.size) : Turn r g fam w w' := ⟨hx.os, hx.tape, hx.output, hx.size, fun k hk _ => hx.block k hk, Or.inr h1, h2⟩
theorem Turn.grown {r g : Nat} {fam : Nat → Option Nat} {w w' : World} {row : Option Nat} (hg : w.grownBy w' row) (hr : row = fam r) (hs : row = some g ∨ g = w.heap.size) (hl : g < w'.heap.size) : Turn r g fam w w' := by
  subst hr
  exact ⟨hg.os, hg.tape, hg.output, hg.size, hg.block, hs.imp id fun h => Nat.le_of_eq h.symm, hl⟩

def RowAt (w : World) (fam : Nat → Option Nat) (r : Nat) (e : TypeId) (v : Value) (xs : List Value) : Prop :=
  ∃ g cap cur, fam r = some g ∧ v = .slice (some ⟨g, 0, none⟩) xs.length cap ∧ w.heap[g]? = some (.cells cur e (0, 0)) ∧ xs.length ≤ cap ∧ cap ≤ maxLen ∧ cur.size = cap ∧ cur.toList.take xs.length = xs
theorem RowAt.ex {w w' : World} {fam : Nat → Option Nat} {r : Nat} {e : TypeId} {v : Value} {xs : List Value} (h : RowAt w fam r e v xs) (hx : Ex w w') : RowAt w' fam r e v xs := by
  obtain ⟨g, cap, cur, h1, h2, h3, h4⟩ := h
  exact ⟨g, cap, cur, h1, h2, hx.blk h3, h4⟩
theorem RowAt.turn {w w' : World} {fam : Nat → Option Nat} {r s g lo : Nat} {e : TypeId} {v : Value} {xs : List Value} (h : RowAt w fam s e v xs) (ht : Turn r g fam w w') (hf : FamOk lo w fam) (hs : s ≠ r) : RowAt w' (upd fam r (some g)) s e v xs := by
  obtain ⟨k, cap, cur, h1, h2, h3, h4⟩ := h
  exact ⟨k, cap, cur, by rw [upd_else _ _ hs]; exact h1, h2, by rw [ht.kept hf hs h1]; exact h3, h4⟩
theorem RowAt.owns {w : World} {fam : Nat → Option Nat} {r lo : Nat} {e : TypeId} {v : Value} {xs : List Value} (h : RowAt w fam r e v xs) (hf : FamOk lo w fam) : w.ownsRow lo e 1 v xs.length xs ∧ v.ownBlock = fam r := by
  obtain ⟨g, cap, cur, h1, rfl, h3, h4, h5, h6, h7⟩ := h
  exact ⟨⟨by simp, Or.inr ⟨g, cap, cur, rfl, (hf.1 r g h1).1, h3, h4, h5, by omega, by rw [Nat.mul_one]; exact h7⟩⟩, h1.symm⟩
theorem RowAt.made {w : World} {fam : Nat → Option Nat} {r lo g n cap : Nat} {e : TypeId} {xs : List Value} (h : w.ownsRow lo e 1 (.slice (some ⟨g, 0, none⟩) n cap) n xs) : RowAt w (upd fam r (some g)) r e (.slice (some ⟨g, 0, none⟩) n cap) xs := by
  obtain ⟨h0, ⟨h1, _⟩ | ⟨g', cap', cur, h1, _, h3, h4, h5, h6, h7⟩⟩ := h
  · cases h1
  · cases h1
    have e0 : xs.length = n := by omega
    exact ⟨g, cap, cur, upd_at _ _ _, by rw [e0], h3, by omega, h5, by omega, by rw [e0, ← Nat.mul_one n]; exact h7⟩
theorem RowAt.new {w : World} {fam : Nat → Option Nat} {r : Nat} {e : TypeId} (xs : List Value) (hm : xs.length ≤ maxLen) : RowAt (w.alloc (.cells xs.toArray e)) (upd fam r (some w.heap.size)) r e (.slice (some ⟨w.heap.size, 0, none⟩) xs.length xs.length) xs :=
  ⟨_, _, _, upd_at _ _ _, rfl, heap_alloc_new w _, Nat.le_refl _, hm, by simp, by simp⟩

end Go.Proofs.YtldbmlojgakieaaDoor

namespace Go.Proofs.YtldbmlojgakieaaDoor

open Go.RowKit Go.Deep

abbrev zTy : Value := .slice none 0 0

/-- No part of the region's own. -/
def FreeS (fam : Nat → Option Nat) (b : Nat) : Prop := ∀ s, fam s ≠ some b
/-- A cell behind a pointer. -/
def PtrAt (w : World) (fam : Nat → Option Nat) (r : Nat) (e : TypeId) (v x : Value) : Prop := ∃ g, fam r = some g ∧ v = .pointer (some ⟨g, 0, none⟩) ∧ w.heap[g]? = some (.cells #[x] e (0, 0))
/-- A type that is said. -/
def TyAt (w : World) (fam : Nat → Option Nat) (r : F) (mk : Value → Value) (v : Value) : Prop := ∃ a c, v = mk (.agg #[.slice a (len r) c]) ∧ SA w (FreeS fam) r a

theorem SA_lt {w : World} {S : Nat → Prop} {f : F} {a : Option Addr} (h : SA w S f a) : SA w (fun b => S b ∧ b < w.heap.size) f a := SA_mono h fun _ hl hs => ⟨hs, hl⟩
theorem SA_turn {w w' : World} {fam : Nat → Option Nat} {r g : Nat} {f : F} {a : Option Addr} (h : SA w (FreeS fam) f a) (ht : Turn r g fam w w') : SA w' (FreeS (upd fam r (some g))) f a := by
  refine SA_mono (SA_ks (SA_lt h) fun b hs hl => ht.block b hl fun e => hs.1 r e.symm) fun b _ hs t => ?_
  unfold upd
  split
  · intro e
    cases e
    rcases ht.spot with h1 | h1
    · exact hs.1 r h1
    · have := hs.2; omega
  · exact hs.1 t

section
variable (r : F) (ok : Bool) (nv tv V3 V4 T : Value) (nl tl : List Value) (zz : Value)

/-- What each operation of the region has made. -/
def D8 (fam : Nat → Option Nat) (w : World) (v : Value) : Nat → Prop
  | 0 => RowAt w fam 0 9 v []
  | 1 => v = V3
  | 2 => RowAt w fam 0 9 v nl
  | 3 => RowAt w fam 1 9 v [zz]
  | 4 => RowAt w fam 0 9 v (nl ++ [zz])
  | 5 => RowAt w fam 2 32 v []
  | 6 => v = V4
  | 7 => RowAt w fam 2 32 v tl
  | 8 => v = .agg #[zTy]
  | 9 => RowAt w fam 3 32 v [zTy]
  | 10 => RowAt w fam 2 32 v (tl ++ [zTy])
  | 11 => v = T
  | 12 => TyAt w fam r (fun x => .tuple #[x, .bool ok]) v
  | 13 => TyAt w fam r (fun x => .tuple #[x, .bool ok]) v
  | 14 => TyAt w fam r (fun x => x) v
  | 15 => v = .bool ok
  | 16 => PtrAt w fam 4 32 v zTy
  | 17 => ∃ a c, PtrAt w fam 4 32 v (.slice a (len r) c) ∧ SA w (FreeS fam) r a
  | _ => v = .bool ok
def g8 (l : Nat → Bool) : Nat → Bool
  | 0 => !l 2
  | 2 => !l 4
  | 3 => !l 4
  | 5 => !l 7
  | 7 => !l 10
  | 9 => !l 10
  | 16 => !l 17
  | _ => true
def r8 : Nat → Nat
  | 0 => 0 | 2 => 0 | 4 => 0 | 3 => 1 | 5 => 2 | 7 => 2 | 10 => 2 | 9 => 3 | 16 => 4 | 17 => 4 | _ => 9
def s8 : Nat → Nat
  | 0 => 57 | 1 => 58 | 2 => 59 | 3 => 60 | 4 => 61 | 5 => 62 | 6 => 63 | 7 => 64 | 8 => 65 | 9 => 66 | 10 => 67 | 11 => 68 | 12 => 69 | 13 => 56 | 14 => 70 | 15 => 71 | 16 => 10 | 17 => 10 | _ => 11
def ss8 : List Nat := [10, 11, 56, 57, 58, 59, 60, 61, 62, 63, 64, 65, 66, 67, 68, 69, 70, 71]

theorem g8_mono {l : Nat → Bool} {i k : Nat} (h : g8 (upd l i true) k = true) : g8 l k = true := by
  have key : ∀ j, (!upd l i true j) = true → (!l j) = true := fun j hj => by
    unfold upd at hj
    split at hj
    · cases hj
    · exact hj
  unfold g8 at h ⊢
  split <;> first | exact key _ h | rfl

structure J8 (W0 : World) (l : Nat → Bool) (val : Nat → Value) (fam : Nat → Option Nat) (w : World) : Prop where
  fm : FamOk W0.heap.size w fam
  ex : Ex W0 w
  clo : (l 2 = true → l 0 = true) ∧ (l 4 = true → l 2 = true) ∧ (l 7 = true → l 5 = true) ∧ (l 10 = true → l 7 = true) ∧ (l 17 = true → l 16 = true)
  got : ∀ k, k < 19 → l k = true → g8 l k = true → D8 r ok V3 V4 T nl tl zz fam w (val (s8 k)) k

variable {r ok V3 V4 T nl tl zz}

theorem D8.ex {fam : Nat → Option Nat} {w w' : World} {v : Value} (hx : Ex w w') : ∀ k, D8 r ok V3 V4 T nl tl zz fam w v k → D8 r ok V3 V4 T nl tl zz fam w' v k := by
  intro k h
  unfold D8 at h ⊢
  split at h
  case h_2 | h_7 | h_9 | h_12 | h_16 | h_19 => exact h
  case h_13 | h_14 | h_15 => obtain ⟨a, c, e, hs⟩ := h; exact ⟨a, c, e, SA_ks hs fun b _ hl => hx.block b hl⟩
  case h_17 => obtain ⟨g, h1, h2, h3⟩ := h; exact ⟨g, h1, h2, hx.blk h3⟩
  case h_18 => obtain ⟨a, c, ⟨g, h1, h2, h3⟩, hs⟩ := h; exact ⟨a, c, ⟨g, h1, h2, hx.blk h3⟩, SA_ks hs fun b _ hl => hx.block b hl⟩
  all_goals exact RowAt.ex h hx
theorem D8.turn {fam : Nat → Option Nat} {w w' : World} {v : Value} {q g lo : Nat} (ht : Turn q g fam w w') (hf : FamOk lo w fam) : ∀ k, r8 k ≠ q → D8 r ok V3 V4 T nl tl zz fam w v k → D8 r ok V3 V4 T nl tl zz (upd fam q (some g)) w' v k := by
  intro k hk h
  unfold D8 at h ⊢
  split at h
  case h_2 | h_7 | h_9 | h_12 | h_16 | h_19 => exact h
  case h_13 | h_14 | h_15 => obtain ⟨a, c, e, hs⟩ := h; exact ⟨a, c, e, SA_turn hs ht⟩
  case h_17 => obtain ⟨k, h1, h2, h3⟩ := h; exact ⟨k, (upd_else fam (some g) (show (4 : Nat) ≠ q from hk)).trans h1, h2, by rw [ht.kept hf hk h1]; exact h3⟩
  case h_18 => obtain ⟨a, c, ⟨k, h1, h2, h3⟩, hs⟩ := h; exact ⟨a, c, ⟨k, (upd_else fam (some g) (show (4 : Nat) ≠ q from hk)).trans h1, h2, by rw [ht.kept hf hk h1]; exact h3⟩, SA_turn hs ht⟩
  all_goals exact RowAt.turn h ht hf hk

theorem J8.begin (W0 : World) (val : Nat → Value) (w : World) (hx : Ex W0 w) : J8 r ok V3 V4 T nl tl zz W0 (fun _ => false) val (fun _ => none) w :=
  ⟨FamOk.none _ _, hx, ⟨fun h => (by cases h), fun h => (by cases h), fun h => (by cases h), fun h => (by cases h), fun h => (by cases h)⟩, fun _ _ h => by cases h⟩

theorem clo_upd {l : Nat → Bool} {i : Nat} (hc : (l 2 = true → l 0 = true) ∧ (l 4 = true → l 2 = true) ∧ (l 7 = true → l 5 = true) ∧ (l 10 = true → l 7 = true) ∧ (l 17 = true → l 16 = true))
    (hd : (i = 2 → l 0 = true) ∧ (i = 4 → l 2 = true) ∧ (i = 7 → l 5 = true) ∧ (i = 10 → l 7 = true) ∧ (i = 17 → l 16 = true)) :
    ((upd l i true) 2 = true → (upd l i true) 0 = true) ∧ ((upd l i true) 4 = true → (upd l i true) 2 = true) ∧ ((upd l i true) 7 = true → (upd l i true) 5 = true) ∧ ((upd l i true) 10 = true → (upd l i true) 7 = true) ∧ ((upd l i true) 17 = true → (upd l i true) 16 = true) := by
  have key : ∀ a b, (l a = true → l b = true) → (i = a → l b = true) → (upd l i true a = true → upd l i true b = true) := fun a b h1 h2 h => by
    unfold upd at h ⊢
    split
    · rfl
    · split at h
      · rename_i e; exact h2 e.symm
      · exact h1 h
  exact ⟨key _ _ hc.1 hd.1, key _ _ hc.2.1 hd.2.1, key _ _ hc.2.2.1 hd.2.2.1, key _ _ hc.2.2.2.1 hd.2.2.2.1, key _ _ hc.2.2.2.2 hd.2.2.2.2⟩

theorem J8.pure {W0 : World} {l : Nat → Bool} {val : Nat → Value} {fam : Nat → Option Nat} {w w' : World} (i : Nat) (h : J8 r ok V3 V4 T nl tl zz W0 l val fam w) (hx : Ex w w')
    (hd : (i = 2 → l 0 = true) ∧ (i = 4 → l 2 = true) ∧ (i = 7 → l 5 = true) ∧ (i = 10 → l 7 = true) ∧ (i = 17 → l 16 = true)) (v : Value) (hn : D8 r ok V3 V4 T nl tl zz fam w' v i)
    (hs : ∀ k, k < 19 → k ≠ i → s8 k ≠ s8 i) : J8 r ok V3 V4 T nl tl zz W0 (upd l i true) (upd val (s8 i) v) fam w' := by
  refine ⟨h.fm.ex hx, h.ex.trans hx, clo_upd h.clo hd, fun k hk hl hg => ?_⟩
  by_cases e : k = i
  · subst e; rw [upd_at]; exact hn
  · rw [upd_else _ _ e] at hl
    rw [upd_else _ _ (hs k hk e)]
    exact D8.ex hx k (h.got k hk hl (g8_mono hg))
theorem J8.turn {W0 : World} {l : Nat → Bool} {val : Nat → Value} {fam : Nat → Option Nat} {w w' : World} (i : Nat) {q g : Nat} (h : J8 r ok V3 V4 T nl tl zz W0 l val fam w) (ht : Turn q g fam w w')
    (hd : (i = 2 → l 0 = true) ∧ (i = 4 → l 2 = true) ∧ (i = 7 → l 5 = true) ∧ (i = 10 → l 7 = true) ∧ (i = 17 → l 16 = true)) (v : Value) (hn : D8 r ok V3 V4 T nl tl zz (upd fam q (some g)) w' v i)
    (hs : ∀ k, k < 19 → k ≠ i → l k = true → g8 (upd l i true) k = true → r8 k ≠ q ∧ s8 k ≠ s8 i) : J8 r ok V3 V4 T nl tl zz W0 (upd l i true) (upd val (s8 i) v) (upd fam q (some g)) w' := by
  refine ⟨ht.fam h.fm h.ex.size, ht.ex h.fm h.ex, clo_upd h.clo hd, fun k hk hl hg => ?_⟩
  by_cases e : k = i
  · subst e; rw [upd_at]; exact hn
  · rw [upd_else _ _ e] at hl
    obtain ⟨h1, h2⟩ := hs k hk e hl hg
    rw [upd_else _ _ h2]
    exact D8.turn ht h.fm k h1 (h.got k hk hl (g8_mono hg))

/-- What else has the part that an operation turns is past. -/
theorem J8.apart {W0 : World} {l : Nat → Bool} {val : Nat → Value} {fam : Nat → Option Nat} {w : World} (i : Nat) (h : J8 r ok V3 V4 T nl tl zz W0 l val fam w) (h0 : l i = false) (hi : i = 0 ∨ i = 2 ∨ i = 3 ∨ i = 4 ∨ i = 5 ∨ i = 7 ∨ i = 9 ∨ i = 10 ∨ i = 16 ∨ i = 17)
    (hd : (i = 2 → l 0 = true) ∧ (i = 4 → l 2 = true) ∧ (i = 7 → l 5 = true) ∧ (i = 10 → l 7 = true) ∧ (i = 17 → l 16 = true)) :
    ∀ k, k < 19 → k ≠ i → l k = true → g8 (upd l i true) k = true → r8 k ≠ r8 i ∧ s8 k ≠ s8 i := by
  intro k hk hne hl hg
  obtain ⟨c1, c2, c3, c4, c5⟩ := h.clo
  have hk' : k = 0 ∨ k = 1 ∨ k = 2 ∨ k = 3 ∨ k = 4 ∨ k = 5 ∨ k = 6 ∨ k = 7 ∨ k = 8 ∨ k = 9 ∨ k = 10 ∨ k = 11 ∨ k = 12 ∨ k = 13 ∨ k = 14 ∨ k = 15 ∨ k = 16 ∨ k = 17 ∨ k = 18 := by omega
  rcases hi with rfl | rfl | rfl | rfl | rfl | rfl | rfl | rfl | rfl | rfl
  all_goals
    rcases hk' with rfl | rfl | rfl | rfl | rfl | rfl | rfl | rfl | rfl | rfl | rfl | rfl | rfl | rfl | rfl | rfl | rfl | rfl | rfl
  all_goals first
    | exact ⟨by decide, by decide⟩
    | (exfalso; exact hne rfl)
    | (exfalso; simp [g8, upd] at hg; done)
    | (exfalso; have e1 := c1 hl; rw [h0] at e1; cases e1; done)
    | (exfalso; have e1 := c1 (c2 hl); rw [h0] at e1; cases e1; done)
    | (exfalso; have e1 := c2 hl; rw [h0] at e1; cases e1; done)
    | (exfalso; have e1 := c3 hl; rw [h0] at e1; cases e1; done)
    | (exfalso; have e1 := c3 (c4 hl); rw [h0] at e1; cases e1; done)
    | (exfalso; have e1 := c4 hl; rw [h0] at e1; cases e1; done)
    | (exfalso; have e1 := c5 hl; rw [h0] at e1; cases e1; done)
    | (exfalso; have e1 := hd.2.1 rfl; simp [g8, upd, e1] at hg; done)
    | (exfalso; have e1 := hd.2.2.2.1 rfl; simp [g8, upd, e1] at hg; done)

end

end Go.Proofs.YtldbmlojgakieaaDoor

namespace Go.Proofs.YtldbmlojgakieaaDoor

open Go.RowKit Go.Deep

theorem step_run {P : Program} {ops : Array Oper} {o : Oper} {a : Act} {w w' : World} {v : Value} {K : Act → World → Prop} {Q : Exit → Act → World → Prop} {E : Prop} (hg : o.guard = none) (hr : (execOp a.eval o).run P w = .ok (.value v) w') (h : K (a.put o.dst v) w') :
    if Region.wanted o (yielded ops a.tmps) = true then Oper.wp P o a w K Q else E := by
  rw [if_pos (by simp [Region.wanted, hg])]
  unfold Oper.wp
  rw [hr]; exact h
theorem step_skip {P : Program} {ops : Array Oper} {o : Oper} {a : Act} {w w' : World} {K : Act → World → Prop} {Q : Exit → Act → World → Prop} {E : Prop} (hg : o.guard = none) (hr : (execOp a.eval o).run P w = .ok .skip w') (h : K (a.put o.dst undef) w') :
    if Region.wanted o (yielded ops a.tmps) = true then Oper.wp P o a w K Q else E := by
  rw [if_pos (by simp [Region.wanted, hg])]
  unfold Oper.wp
  rw [hr]; exact h
theorem step_call {P : Program} {ops : Array Oper} {o : Oper} {a : Act} {w w' : World} {f : FuncId} {args : Array Value} {p : Ending → World → Prop} {K : Act → World → Prop} {Q : Exit → Act → World → Prop} {E : Prop} (hg : o.guard = none) (hr : (execOp a.eval o).run P w = .ok (.enter f args) w')
    (hC : Calls P f args w' p) (h : ∀ e w'', p e w'' → ∃ v, e = .returned v ∧ K (a.put o.dst v) w'') :
    if Region.wanted o (yielded ops a.tmps) = true then Oper.wp P o a w K Q else E := by
  rw [if_pos (by simp [Region.wanted, hg])]
  unfold Oper.wp
  rw [hr]
  exact hC.mono fun e w'' hp => by
    obtain ⟨v, rfl, hk⟩ := h e w'' hp
    exact hk

section
variable (ρ : Operand → Value) (w : World) (d : Option Tmp) (pos : String) (af : Array Edge)
theorem run_move (x : Operand) (t : TypeId) : (execOp ρ { dst := d, op := .move x, type := t, pos := pos, after := af, guard := none }).run Tryd.prog w = .ok (.value (ρ x)) w := by
  go_simp
theorem run_assign (x : Operand) (t : TypeId) : (execOp ρ { dst := d, op := .assign x, type := t, pos := pos, after := af, guard := none }).run Tryd.prog w = .ok (.value (ρ x)) w := by
  go_simp
theorem run_extract (x : Operand) (t : TypeId) (u v : Value) (i : Nat) (z : Value) (hx : ρ x = .tuple #[u, v]) (hi : #[u, v][i]? = some z) : (execOp ρ { dst := d, op := .extract x i, type := t, pos := pos, after := af, guard := none }).run Tryd.prog w = .ok (.value z) w := by
  match i, hi with
  | 0, hi => simp at hi; subst hi; go_simp
  | 1, hi => simp at hi; subst hi; go_simp
theorem run_bsS0 : (execOp ρ { dst := d, op := .buildSlice 23 0 #[], type := 23, pos := pos, after := af, guard := none }).run Tryd.prog w = .ok (.value (.slice (some ⟨w.heap.size, 0, none⟩) 0 0)) (w.alloc (.cells #[] 9)) := by
  go_simp
theorem run_bsT0 : (execOp ρ { dst := d, op := .buildSlice 24 0 #[], type := 24, pos := pos, after := af, guard := none }).run Tryd.prog w = .ok (.value (.slice (some ⟨w.heap.size, 0, none⟩) 0 0)) (w.alloc (.cells #[] 32)) := by
  go_simp
theorem run_bsS1 (x : Operand) (b : ByteArray) (hx : ρ x = .string b) : (execOp ρ { dst := d, op := .buildSlice 23 1 #[(0, x)], type := 23, pos := pos, after := af, guard := none }).run Tryd.prog w = .ok (.value (.slice (some ⟨w.heap.size, 0, none⟩) 1 1)) (w.alloc (.cells #[.string b] 9)) := by
  go_simp
theorem run_bsT1 (x : Operand) (hx : ρ x = .agg #[zTy]) : (execOp ρ { dst := d, op := .buildSlice 24 1 #[(0, x)], type := 24, pos := pos, after := af, guard := none }).run Tryd.prog w = .ok (.value (.slice (some ⟨w.heap.size, 0, none⟩) 1 1)) (w.alloc (.cells #[zTy] 32)) := by
  go_simp
theorem run_buildT : (execOp ρ { dst := d, op := .build 32 #[], type := 32, pos := pos, after := af, guard := none }).run Tryd.prog w = .ok (.value (.agg #[zTy])) w := by
  go_simp
theorem run_allocT (t : TypeId) : (execOp ρ { dst := d, op := .alloc 32, type := t, pos := pos, after := af, guard := none }).run Tryd.prog w = .ok (.value (.pointer (some ⟨w.heap.size, 0, none⟩))) (w.alloc (.cells #[zTy] 32)) := by
  go_simp
theorem run_loadTerm (x : Operand) (b : Nat) (k nn : Int) (s : ByteArray) (u v : Value) (hx : ρ x = .pointer (some ⟨b, 0, none⟩)) (h0 : w.cell? ⟨b, 0, none⟩ = some (.int .i64 k)) (h1 : w.cell? ⟨b, 1, none⟩ = some (.int .i64 nn)) (h2 : w.cell? ⟨b, 2, none⟩ = some (.string s)) (h3 : w.cell? ⟨b, 3, none⟩ = some u) (h4 : w.cell? ⟨b, 4, none⟩ = some v) : (execOp ρ { dst := d, op := .load 28 x, type := 28, pos := pos, after := af, guard := none }).run Tryd.prog w = .ok (.value (.agg #[.int .i64 k, .int .i64 nn, .string s, u, v])) w := by
  go_simp
theorem run_callKind (x y z : Operand) (u v t : Value) (ty : TypeId) (hx : ρ x = u) (hy : ρ y = v) (hz : ρ z = t) (hf : ρ (.func 6) = .func (.func 6) #[] #[]) : (execOp ρ { dst := d, op := .call { callee := .value (.func 6), args := #[x, y, z], argTypes := #[23, 24, 28] }, type := ty, pos := pos, after := af, guard := none }).run Tryd.prog w = .ok (.enter 6 #[u, v, t]) w := by
  go_simp
theorem run_storeT (x y : Operand) (b : Nat) (sa : Option Addr) (sn sc : Nat) (z : Value) (t : TypeId) (hx : ρ x = .pointer (some ⟨b, 0, none⟩)) (hy : ρ y = .agg #[.slice sa sn sc]) (hb : w.heap[b]? = some (.cells #[z] 32 (0, 0))) : (execOp ρ { dst := d, op := .store 32 x y, type := t, pos := pos, after := af, guard := none }).run Tryd.prog w = .ok .skip (w.setCell ⟨b, 0, none⟩ (.slice sa sn sc)) := by
  have r0 : w.cell? ⟨b, 0, none⟩ = some z := by rw [cell_of_row w b 0 _ _ _ hb]; rfl
  have r1 : w.frozen? ⟨b, 0, none⟩ = false := by simp [World.frozen?, hb]
  have r2 : b < w.heap.size := World.block_lt_of_cell? _ _ r0
  go_simp
end

end Go.Proofs.YtldbmlojgakieaaDoor

namespace Go.Proofs.YtldbmlojgakieaaDoor

open Go.RowKit Go.Deep

theorem ready_dep {ops : Array Oper} {L : Array Bool} {i : Nat} (h : i ∈ Region.ready .any ops L) {o : Oper} (ho : ops[i]? = some o) (j : Nat) {e : Edge} (he : o.after[j]? = some e) (hb : Region.binds .any e = true) : L.getD e.on false = true := by
  have h2 := Array.all_eq_true.1 (ready_after h ho) j (Array.getElem?_eq_some_iff.1 he).1
  rw [(Array.getElem?_eq_some_iff.1 he).2, hb] at h2
  simpa using h2
theorem choose_list (p : Nat → Value → Prop) : ∀ n, (∀ i, i < n → ∃ v, p i v) → ∃ l : List Value, l.length = n ∧ ∀ i, i < n → ∃ v, l[i]? = some v ∧ p i v
  | 0, _ => ⟨[], rfl, fun i hi => absurd hi (Nat.not_lt_zero _)⟩
  | n + 1, h => by
    obtain ⟨l, h1, h2⟩ := choose_list p n fun i hi => h i (by omega)
    obtain ⟨v, hv⟩ := h n (by omega)
    refine ⟨l ++ [v], by simp [h1], fun i hi => ?_⟩
    by_cases e : i < n
    · obtain ⟨u, h3, h4⟩ := h2 i e
      exact ⟨u, by rw [List.getElem?_append_left (by omega)]; exact h3, h4⟩
    · have ei : i = n := by omega
      subst ei
      exact ⟨v, by rw [List.getElem?_append_right (by omega)]; simp [h1], hv⟩

theorem one_set {w : World} {b : Nat} {u u' : Value} {t : TypeId} (h : w.heap[b]? = some (.cells #[u] t (0, 0))) : (w.setCell ⟨b, 0, none⟩ u').heap[b]? = some (.cells #[u'] t (0, 0)) := by
  simp [World.setCell, Array.getElem?_modify, h]

abbrev ops8 (pos : String) : Array Oper := #[{ dst := some 57, op := .buildSlice 23 0 #[], type := 23, pos := pos, after := #[], guard := none },
  { dst := some 58, op := .move (.tmp 3), type := 23, pos := pos, after := #[], guard := none },
  { dst := some 59, op := .call { callee := .builtin .append, args := #[.tmp 57, .tmp 58], argTypes := #[23, 23] }, type := 23, pos := pos, after := #[{ on := 0, ground := .data }, { on := 1, ground := .data }], guard := none },
  { dst := some 60, op := .buildSlice 23 1 #[(0, .const (.string { data := #[122, 122] }))], type := 23, pos := pos, after := #[], guard := none },
  { dst := some 61, op := .call { callee := .builtin .append, args := #[.tmp 59, .tmp 60], argTypes := #[23, 23] }, type := 23, pos := pos, after := #[{ on := 2, ground := .data }, { on := 3, ground := .data }, { on := 2, ground := .chain }], guard := none },
  { dst := some 62, op := .buildSlice 24 0 #[], type := 24, pos := pos, after := #[], guard := none },
  { dst := some 63, op := .move (.tmp 4), type := 24, pos := pos, after := #[], guard := none },
  { dst := some 64, op := .call { callee := .builtin .append, args := #[.tmp 62, .tmp 63], argTypes := #[24, 24] }, type := 24, pos := pos, after := #[{ on := 5, ground := .data }, { on := 6, ground := .data }, { on := 4, ground := .chain }], guard := none },
  { dst := some 65, op := .build 32 #[], type := 32, pos := pos, after := #[], guard := none },
  { dst := some 66, op := .buildSlice 24 1 #[(0, .tmp 65)], type := 24, pos := pos, after := #[{ on := 8, ground := .data }], guard := none },
  { dst := some 67, op := .call { callee := .builtin .append, args := #[.tmp 64, .tmp 66], argTypes := #[24, 24] }, type := 24, pos := pos, after := #[{ on := 7, ground := .data }, { on := 9, ground := .data }, { on := 7, ground := .chain }], guard := none },
  { dst := some 68, op := .load 28 (.tmp 5), type := 28, pos := pos, after := #[], guard := none },
  { dst := some 69, op := .call { callee := .value (.func 6), args := #[.tmp 61, .tmp 67, .tmp 68], argTypes := #[23, 24, 28] }, type := 33, pos := pos, after := #[{ on := 4, ground := .data }, { on := 10, ground := .data }, { on := 11, ground := .data }, { on := 10, ground := .chain }], guard := none },
  { dst := some 56, op := .move (.tmp 69), type := 33, pos := pos, after := #[{ on := 12, ground := .data }], guard := none },
  { dst := some 70, op := .extract (.tmp 56) 0, type := 32, pos := pos, after := #[{ on := 13, ground := .data }], guard := none },
  { dst := some 71, op := .extract (.tmp 56) 1, type := 4, pos := pos, after := #[{ on := 13, ground := .data }, { on := 17, ground := .gcOnly .lateStores }], guard := none },
  { dst := some 10, op := .alloc 32, type := 0, pos := pos, after := #[], guard := none },
  { dst := none, op := .store 32 (.tmp 10) (.tmp 70), type := 0, pos := pos, after := #[{ on := 16, ground := .data }, { on := 14, ground := .data }, { on := 12, ground := .chain }, { on := 0, ground := .phase }, { on := 1, ground := .phase }, { on := 2, ground := .phase }, { on := 3, ground := .phase }, { on := 4, ground := .phase }, { on := 5, ground := .phase }, { on := 6, ground := .phase }, { on := 7, ground := .phase }, { on := 8, ground := .phase }, { on := 9, ground := .phase }, { on := 10, ground := .phase }, { on := 11, ground := .phase }, { on := 12, ground := .phase }, { on := 13, ground := .phase }, { on := 14, ground := .phase }, { on := 15, ground := .textOnly .lateStores }, { on := 16, ground := .phase }], guard := none },
  { dst := some 11, op := .assign (.tmp 71), type := 4, pos := pos, after := #[{ on := 15, ground := .data }, { on := 17, ground := .chain }, { on := 0, ground := .phase }, { on := 1, ground := .phase }, { on := 2, ground := .phase }, { on := 3, ground := .phase }, { on := 4, ground := .phase }, { on := 5, ground := .phase }, { on := 6, ground := .phase }, { on := 7, ground := .phase }, { on := 8, ground := .phase }, { on := 9, ground := .phase }, { on := 10, ground := .phase }, { on := 11, ground := .phase }, { on := 12, ground := .phase }, { on := 13, ground := .phase }, { on := 14, ground := .phase }, { on := 15, ground := .phase }, { on := 16, ground := .phase }, { on := 17, ground := .phase }], guard := none }]

section
variable {r : F} {ok : Bool} {V3 V4 T : Value} {nl tl : List Value} {zz : Value}
def I8 (r : F) (ok : Bool) (V3 V4 T : Value) (nl tl : List Value) (zz : Value) (A0 : Act) (W0 : World) (L : Array Bool) (a : Act) (w : World) : Prop :=
  ∃ val fam, a = putAll A0 val ss8 ∧ J8 r ok V3 V4 T nl tl zz W0 (fun k => L.getD k false) val fam w ∧ L.size = 19
theorem getD_set {L : Array Bool} {i : Nat} (hL : L.size = 19) (hi : i < 19) : (fun k => (L.setIfInBounds i true).getD k false) = upd (fun k => L.getD k false) i true := by
  funext k
  unfold upd
  show (L.setIfInBounds i true).getD k false = _
  rw [Array.getD_eq_getD_getElem?, Array.getElem?_setIfInBounds]
  by_cases e : i = k
  · subst e; rw [if_pos rfl, if_pos (by omega), if_pos rfl]; rfl
  · rw [if_neg e, if_neg (fun h => e h.symm)]; show _ = L.getD k false; rw [Array.getD_eq_getD_getElem?]
theorem I8.put {A0 : Act} {W0 w' : World} {L : Array Bool} {val : Nat → Value} {fam : Nat → Option Nat} (i : Nat) {v : Value} {a : Act} (hA : A0.tmps.size = 78) (ha : a = putAll A0 val ss8) (hL : L.size = 19) (hi : i < 19) (hs : s8 i ∈ ss8 ∧ s8 i < 78)
    (hJ : J8 r ok V3 V4 T nl tl zz W0 (upd (fun k => L.getD k false) i true) (upd val (s8 i) v) fam w') : I8 r ok V3 V4 T nl tl zz A0 W0 (L.setIfInBounds i true) (a.put (some (s8 i)) v) w' :=
  ⟨_, fam, by rw [ha]; exact putAll_put v (by omega) hs.1, by rw [getD_set hL hi]; exact hJ, by rw [Array.size_setIfInBounds]; exact hL⟩
theorem I8.stay {A0 : Act} {W0 w' : World} {L : Array Bool} {val : Nat → Value} {fam : Nat → Option Nat} {u : Value} {a : Act} (ha : a = putAll A0 val ss8) (hL : L.size = 19)
    (hJ : J8 r ok V3 V4 T nl tl zz W0 (upd (fun k => L.getD k false) 17 true) (upd val (s8 17) (val (s8 17))) fam w') : I8 r ok V3 V4 T nl tl zz A0 W0 (L.setIfInBounds 17 true) (a.put none u) w' := by
  have e : upd val (s8 17) (val (s8 17)) = val := upd_self val _
  rw [e] at hJ
  exact ⟨val, fam, ha, by rw [getD_set hL (by omega)]; exact hJ, by rw [Array.size_setIfInBounds]; exact hL⟩
end


theorem infoStr : (Tryd.prog.info? 9).map (fun i => (i.zero, i.size, i.bytes)) = some (some (.string ⟨#[]⟩), 1, 16) := by kernel_rfl
theorem I8.open {pos : String} {A0 : Act} {W0 : World} {r : F} {ok : Bool} {V3 V4 T : Value} {nl tl : List Value} {zz : Value} {L : Array Bool} {a : Act} {w : World} {i : Nat} (hA : A0.tmps.size = 78) (hI : I8 r ok V3 V4 T nl tl zz A0 W0 L a w) (hi : i ∈ Region.ready .any (ops8 pos) L) :
    ∃ val fam, a = putAll A0 val ss8 ∧ J8 r ok V3 V4 T nl tl zz W0 (fun k => L.getD k false) val fam w ∧ L.size = 19 ∧ L.getD i false = false ∧ (∀ t, t ∈ ss8 → a.eval (.tmp t) = val t) ∧ (∀ t, t < 78 → t ∉ ss8 → a.eval (.tmp t) = A0.eval (.tmp t)) := by
  obtain ⟨val, fam, rfl, hJ, hL⟩ := hI
  have hlt : i < 19 := (ready_mem hi).1
  have h0 : L.getD i false = false := by
    have h := (ready_mem hi).2
    have hl : i < L.size := by omega
    rw [Array.getD_eq_getD_getElem?, Array.getElem?_eq_getElem hl] at h ⊢
    simpa using h
  exact ⟨val, fam, rfl, hJ, hL, h0, fun t h => putAll_in (by rw [hA]; revert t; decide) h, fun t h h' => putAll_out (by omega) h'⟩

end Go.Proofs.YtldbmlojgakieaaDoor
