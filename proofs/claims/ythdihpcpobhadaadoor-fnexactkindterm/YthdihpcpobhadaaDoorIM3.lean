/- Walks: names counted in a map. -/
import Derived.Test.YthdihpcpobhadaaDoorIM2

import Derived.Test.YthdihpcpobhadaaDoorD1

import Derived.Maps.Own

import Derived.Maps.OwnOps

import Derived.Maps.OwnSet

namespace Go.Proofs.YthdihpcpobhadaaDoor

open Go.RowKit Go.Deep Go.Maps Go.WideMaps

attribute [local go_sem ↓] Go.wp_at_zero Go.wp_at_succ

/-- How often a name is among names. -/
def cntN (ns : List ByteArray) (s : ByteArray) : Nat := (ns.filter fun t => t.toList == s.toList).length
theorem cntN_snoc (ns : List ByteArray) (t s : ByteArray) : cntN (ns ++ [t]) s = cntN ns s + (if (t.toList == s.toList) = true then 1 else 0) := by
  simp only [cntN, List.filter_append, List.length_append, List.filter_cons, List.filter_nil]
  by_cases h : (t.toList == s.toList) = true
  · simp [h]
  · simp [h]
theorem cntN_le (ns : List ByteArray) (s : ByteArray) : cntN ns s ≤ ns.length := List.length_filter_le _ _
theorem cntN_has (ns : List ByteArray) (s : ByteArray) : hasB ns s = decide (cntN ns s ≠ 0) := by
  cases h : hasB ns s with
  | true =>
    simp only [hasB, List.any_eq_true] at h
    obtain ⟨t, ht, he⟩ := h
    symm
    rw [decide_eq_true_eq]
    intro h0
    have := List.length_eq_zero_iff.mp h0
    have hm : t ∈ ns.filter (fun t => t.toList == s.toList) := List.mem_filter.2 ⟨ht, he⟩
    rw [this] at hm; cases hm
  | false =>
    simp only [hasB, List.any_eq_false] at h
    symm
    rw [decide_eq_false_iff_not]
    intro h0
    apply h0
    simp only [cntN]
    rw [List.length_eq_zero_iff, List.filter_eq_nil_iff]
    intro t ht
    simpa using h t ht
theorem cntN_same {ns : List ByteArray} {s t : ByteArray} (h : (s.toList == t.toList) = true) : cntN ns s = cntN ns t := by
  have : s.toList = t.toList := by simpa using h
  simp only [cntN, this]

theorem Tryd.keyed : Keyed Tryd.prog 9 := string_keyed Tryd.underlying9
theorem Tryd.zeroInt (w : World) : (zeroValue 3).run Tryd.prog w = .ok (.int .i64 0) w := by kernel_rfl

/-- A block is a map that holds of each name how often it is among names. -/
def CM (w : World) (mb n : Nat) (ns : List ByteArray) : Prop := ∃ D : DataW Unit, w.ownsMap Tryd.prog 9 (plainElem Tryd.prog 3) mb n D ∧ ∀ s : ByteArray, D.atKey (.string s.data.toList) (.lit (.int .i64 0)) = .lit (.int .i64 (cntN ns s : Int))
theorem CM_made (w : World) : CM (w.alloc (.map #[] 0)) w.heap.size 0 [] := ⟨_, World.ownsMap_made w _ _ _, fun _ => rfl⟩
theorem CM.blk {w w' : World} {mb n : Nat} {ns : List ByteArray} (h : CM w mb n ns) (hb : w'.heap[mb]? = w.heap[mb]?) : CM w' mb n ns := by
  obtain ⟨D, ⟨es, cl, h1, h2⟩, h3⟩ := h
  exact ⟨D, ⟨es, cl, hb.trans h1, h2⟩, h3⟩
theorem CM.lt {w : World} {mb n : Nat} {ns : List ByteArray} (h : CM w mb n ns) : mb < w.heap.size := by
  obtain ⟨D, h1, _⟩ := h
  exact h1.lt
theorem CM.ex {w w' : World} {mb n : Nat} {ns : List ByteArray} (h : CM w mb n ns) (hx : Ex w w') : CM w' mb n ns := h.blk (hx.block mb h.lt)
theorem CM.drew {w : World} {mb n : Nat} {ns : List ByteArray} (h : CM w mb n ns) : CM w.drew mb n ns := h.blk rfl
theorem CM.ne {w : World} {mb n : Nat} {ns : List ByteArray} (h : CM w mb n ns) {p : Addr} {v : Value} (hc : w.cell? p = some v) : p.block ≠ mb := by
  obtain ⟨D, ⟨es, cl, h1, h2⟩, h3⟩ := h
  intro e
  simp [World.cell?, e, h1] at hc
theorem key_string {s : ByteArray} (hs : s.size ≤ 9223372036854775807) : keyOf Tryd.prog 9 (.string s) = some (.string s.data.toList) := keyOf_string_mk Tryd.underlying9 (by unfold maxLen; omega)
/-- A name asked for. -/
theorem CM.look {w : World} {mb n : Nat} {ns : List ByteArray} (h : CM w mb n ns) {s : ByteArray} (hs : s.size ≤ 9223372036854775807) : (Instr.lookup 99 (.map (some mb)) (.string s) false).run Tryd.prog w = .ok (.int .i64 (cntN ns s : Int)) w := by
  obtain ⟨D, h1, h2⟩ := h
  obtain ⟨c, hr, hc, _⟩ := h1.lookup_int Tryd.keyed Tryd.underlying99 Tryd.underlying3 (Tryd.zeroInt _) (key_string hs)
  have e : DataW.lit (H := Unit) (.int .i64 c) = .lit (.int .i64 (cntN ns s : Int)) := hc.symm.trans (h2 s)
  simp only [DataW.lit.injEq, Lit.int.injEq, true_and] at e
  rw [e] at hr; exact hr
theorem grown_fr {w w' : World} {b : Nat} (h : w.grownBy w' (some b)) : Fr b w w' := ⟨h.os, h.tape, h.output, h.size, fun k hk hn => h.block k hk (fun e => hn (Option.some.inj e))⟩
theorem byte_key {s t : ByteArray} : s.data.toList = t.data.toList ↔ (s.toList == t.toList) = true := by
  rw [beq_iff_eq, Go.ByteArray.toList_eq, Go.ByteArray.toList_eq]
theorem CM.put {w' : World} {mb n : Nat} {ns : List ByteArray} {s : ByteArray} {D : DataW Unit} (hD : IsMap D) (h2 : ∀ s : ByteArray, D.atKey (.string s.data.toList) (.lit (.int .i64 0)) = .lit (.int .i64 (cntN ns s : Int))) (h : w'.ownsMap Tryd.prog 9 (plainElem Tryd.prog 3) mb n (D.put (.string s.data.toList) (.lit (.int .i64 ((cntN ns s : Int) + 1))))) : CM w' mb n (ns ++ [s]) := by
  refine ⟨_, h, fun t => ?_⟩
  by_cases he : (s.toList == t.toList) = true
  · have e := byte_key.2 he
    rw [← e, atKey_put_same hD (k := .string s.data.toList) (by simp [WideAt.IsKeyLit]), cntN_snoc, if_pos he, ← cntN_same he]
    simp
  · rw [atKey_put_other (fun e => by injection e with e; exact he (byte_key.1 e.symm)), h2 t, cntN_snoc, if_neg he]
    simp

/-- A name counted once more: an operation of an ordered list. -/
theorem wpList_count {w : World} {ops : Array Oper} {rest : List Oper} {o : Oper} {a : Act} {Q : Exit → Act → World → Prop} (hg : o.guard = none) (m x v : Operand) (hop : o.op = Op.mapUpdate 99 m x v)
    (mb n : Nat) (ns : List ByteArray) (s : ByteArray) (hs : s.size ≤ 9223372036854775807) (hm : a.eval m = .map (some mb)) (hC : CM w mb n ns) (hn : n < 1000000) (hns : ns.length < 1000000) (hx : a.eval x = .string s) (hv : a.eval v = .int .i64 ((cntN ns s : Int) + 1))
    (hK : ∀ w', CM w' mb (n + 1) (ns ++ [s]) → Fr mb w w' → wpList Tryd.prog ops Q rest (a.put o.dst undef) w') : wpList Tryd.prog ops Q (o :: rest) a w := by
  obtain ⟨D, h1, h2⟩ := hC
  have hc := cntN_le ns s
  refine wpList_mapUpdate_own w hg m x v 99 hop 9 3 Tryd.keyed Tryd.underlying99 _ mb n D hm h1 (by unfold maxLen; omega) _ _ _ hx hv (key_string hs) _ [] (plainElem_int Tryd.underlying3 (WalkArith.wf_i64 (by omega))) ?_
  intro w' hown hgr
  exact hK w' (CM.put h1.isMap h2 hown) (grown_fr hgr)

end Go.Proofs.YthdihpcpobhadaaDoor
