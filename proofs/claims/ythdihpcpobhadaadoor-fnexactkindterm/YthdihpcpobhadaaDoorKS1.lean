/- Walks: the type of a name, and of a term, by the specification. -/
import Derived.Test.YthdihpcpobhadaaDoorKT4

import Derived.Test.YthdihpcpobhadaaDoorLS1

namespace Go.Proofs.YthdihpcpobhadaaDoor

open Go.RowKit Go.Deep Go.Maps Go.WideMaps

attribute [local go_sem ↓] Go.wp_at_zero Go.wp_at_succ

abbrev nilK : ByteArray → F := fun _ => .nil
theorem setAll_yes {ns : List ByteArray} {l : F} {s : ByteArray} {i : Nat} (h : ((ns.getD i ⟨#[]⟩).toList == s.toList) = true) : setAll nilK ns l (i + 1) s = kid l i := by rw [setAll, setK, if_pos h]
theorem setAll_no {ns : List ByteArray} {l : F} {s : ByteArray} {i : Nat} (h : ((ns.getD i ⟨#[]⟩).toList == s.toList) = false) : setAll nilK ns l (i + 1) s = setAll nilK ns l i s := by rw [setAll, setK, if_neg (by rw [h]; simp)]

/-- The type of a name that is found. -/
def GtP (S : Nat → Prop) (f : F) (has : Bool) (w : World) (e : Ending) (w' : World) : Prop := ∃ a' c' b, e = .returned (.tuple #[.agg #[.slice a' (len f) c'], .bool b]) ∧ (has = true → b = true) ∧ SA w' S f a' ∧ Ex w w'

set_option maxRecDepth 100000 in
set_option maxHeartbeats 2000000 in
theorem getT_any (B : Nat) (S : Nat → Prop) (ns : List ByteArray) (tl : F) (na ta : Option Addr) (nc tc : Nat) (s : ByteArray) (w : World) (hl : ns.length ≤ 1000000000) (hlen : len tl = ns.length) (hS : ∀ b, S b → b < w.heap.size)
    (h1 : w.cell? ⟨B, 0, none⟩ = some (.slice na ns.length nc)) (h2 : w.cell? ⟨B, 1, none⟩ = some (.slice ta (len tl) tc)) (hX : XA w 0 ns na) (hV : SA w S tl ta) :
    Calls Tryd.prog 61 #[.pointer (some ⟨B, 0, none⟩), .string s] w (GtP S (setAll nilK ns tl ns.length s) (hasB ns s) w) := by
  have X : Hid (∀ w', Ex w w' → XA w' 0 ns na) := fun _ h => XA_below hX h
  have V : Hid (∀ w', Ex w w' → SA w' S tl ta) := fun _ h => SA_ex hV h
  have HS : Hid (∀ b, S b → b < w.heap.size) := hS
  have HL : Hid (len tl = ns.length) := hlen
  have CB : Hid (∀ w', Ex w w' → w'.cell? ⟨B, 0, none⟩ = some (.slice na ns.length nc) ∧ w'.cell? ⟨B, 1, none⟩ = some (.slice ta (len tl) tc)) := fun w' h => ⟨h.at h1, h.at h2⟩
  have N : Hid (Ex w (w.alloc (.cells #[.slice none 0 0] 32))) := Ex.new _ _
  have zb : B < w.heap.size := World.block_lt_of_cell? _ _ h1
  have g1 := (Ex.new w (.cells #[.slice none 0 0] 32)).at h1
  obtain ⟨R, hR⟩ : ∃ R, R = setAll nilK ns tl ns.length s := ⟨_, rfl⟩
  have RR : Hid (R = setAll nilK ns tl ns.length s) := hR
  rw [← hR]
  obtain ⟨hb, hhb⟩ : ∃ hb, hb = hasB ns s := ⟨_, rfl⟩
  have HB : Hid (hb = hasB ns s) := hhb
  rw [← hhb]
  clear hX hV hS hlen hR h1 h2 hhb
  go_enter Tryd.func61, Tryd.ntmps61
  go_wp2_with fail
  go_loopw [6] (fun i wr => ∃ (j : Nat) (x : Int), j ≤ ns.length ∧ x = (j : Int) - 1 ∧ i = .int .i64 x ∧ R = setAll nilK ns tl j s ∧ (∀ i, j ≤ i → i < ns.length → ((ns.getD i ⟨#[]⟩).toList == s.toList) = false) ∧ Ex (w.alloc (.cells #[.slice none 0 0] 32)) wr) (fun i _ => (intOf i + 1).toNat)
  case atStart => exact ⟨ns.length, _, Nat.le_refl _, rfl, by go_num, RR.out, fun i h1 h2 => by omega, Ex.refl _⟩
  case round =>
    obtain ⟨j, x, hj, hx, rfl, hr, hno, hex⟩ := hrel
    have XJ : Hid (x = (j : Int) - 1) := hx
    have RJ : Hid (R = setAll nilK ns tl j s) := hr
    have E : Hid (Ex (w.alloc (.cells #[.slice none 0 0] 32)) wr) := hex
    have J : Hid (j ≤ ns.length) := hj
    have NO : Hid (∀ i, j ≤ i → i < ns.length → ((ns.getD i ⟨#[]⟩).toList == s.toList) = false) := hno
    have hob : wr.heap[w.heap.size]? = some (.cells #[.slice none 0 0] 32 (0, 0)) := hex.blk (heap_alloc_at _ _ (by simp))
    have r0 := cell_of_one hob
    have r2 := free_of_one hob
    have OB : Hid _ := hob
    obtain ⟨p1, p2⟩ := CB.out wr (N.out.trans E.out)
    cases j with
    | zero =>
      have hx1 : x = -1 := by omega
      clear hx hr hex hj hob XJ hno
      subst hx1
      have HR : Hid (R = .nil) := RJ.out
      have HN : Hid (hb = false) := HB.out.trans (hasB_no fun i hi => NO.out i (Nat.zero_le _) hi)
      go_wp2_with fail
      have s0 := World.cell?_setCell_same wr ⟨w.heap.size, 0, none⟩ (.slice none 0 0) r0
      refine bodyPost_ret (v := .tuple #[.agg #[.slice none 0 0], .bool false]) (by simp [results, Tryd.results61, go_sem, s0]) rfl ?_
      rw [HR.out]
      exact ⟨none, 0, false, rfl, fun h => (by rw [HN.out] at h; cases h), Or.inl rfl, (N.out.trans E.out).set (by exact Nat.le_refl _) _⟩
    | succ j =>
      have hxj : x = (j : Int) := by omega
      clear hx hr hex hob XJ hno
      subst hxj
      obtain ⟨b, o, rfl, hbs, _, hc⟩ := XA_at (X.out wr (N.out.trans E.out)) (by omega)
      have ck := hc j (by omega)
      obtain ⟨b', o', rfl, _, _, hk⟩ := SA_at (V.out wr (N.out.trans E.out)) (by have := HL.out; omega)
      obtain ⟨a', c', v1c, hV'⟩ := hk j (by have := HL.out; omega)
      have VK : Hid (SA wr S (kid tl j) a') := hV'
      have i0 : (0 : Int) ≤ (j : Int) := by omega
      have i1 : (j : Int) < (ns.length : Int) := by omega
      have i2 : (j : Int) < (len tl : Int) := by have := HL.out; omega
      have Y : Hid (((ns.getD j ⟨#[]⟩).toList == s.toList) = true → R = kid tl j) := fun h => RJ.out.trans (setAll_yes h)
      have U : Hid (((ns.getD j ⟨#[]⟩).toList == s.toList) = false → R = setAll nilK ns tl j s) := fun h => RJ.out.trans (setAll_no h)
      have NX : Hid (((ns.getD j ⟨#[]⟩).toList == s.toList) = false → ∀ i, j ≤ i → i < ns.length → ((ns.getD i ⟨#[]⟩).toList == s.toList) = false) := fun h i h1 h2 => by
        by_cases e : i = j
        · rw [e]; exact h
        · exact NO.out i (by omega) h2
      obtain ⟨t, ht⟩ : ∃ t, ns.getD j ⟨#[]⟩ = t := ⟨_, rfl⟩
      rw [ht] at ck Y U NX
      clear hc ht hk hV' RJ
      cases he : t.toList == s.toList with
      | true =>
        have HR : Hid (R = kid tl j) := Y.out he
        go_wp2_with fail
        have s0 := World.cell?_setCell_same wr ⟨w.heap.size, 0, none⟩ (.slice a' (len (kid tl j)) c') r0
        refine bodyPost_ret (v := .tuple #[.agg #[.slice a' (len (kid tl j)) c'], .bool true]) (by simp [results, Tryd.results61, go_sem, s0]) rfl ?_
        rw [HR.out]
        refine ⟨a', c', true, rfl, fun _ => rfl, SA_ks VK.out fun b hb _ => ?_, (N.out.trans E.out).set (by exact Nat.le_refl _) _⟩
        have := HS.out b hb
        rw [Below.heap_setCell _ _ _ _ (by show b ≠ w.heap.size; omega)]
      | false =>
        have HU : Hid _ := U.out he
        have HX : Hid _ := NX.out he
        go_wp2_with fail
        go_roundw
        case rel => exact ⟨j, (j : Int) - 1, by omega, rfl, by go_num, HU.out, HX.out, E.out⟩
        case measure => simp [intOf]

end Go.Proofs.YthdihpcpobhadaaDoor
