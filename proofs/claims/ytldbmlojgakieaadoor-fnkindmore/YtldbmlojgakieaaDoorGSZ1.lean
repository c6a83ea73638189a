/- Lists put behind what is owned; bindings and bodies that are ok, without the program. Walks: the program's names, paths and terms that are ok. Walks: the program's terms that have just what their kinds say. Walks: names counted in a map. Walks: texts and terms counted by the exact laws. -/
import Derived.Test.YtldbmlojgakieaaDoorGBD2
import Derived.Laws.AppendOwn
import Derived.Laws.OwnMore
import Derived.Deep.RegionHeld3
import Derived.Test.YtldbmlojgakieaaDoorGD1
import Derived.Maps.Own
import Derived.Maps.OwnOps
import Derived.Maps.OwnSet
namespace Go.Proofs.YtldbmlojgakieaaDoor

open Go.RowKit Go.Deep

theorem grown_same (w : World) (o : Option Nat) : w.grownBy w o := ⟨rfl, rfl, rfl, Nat.le_refl _, fun _ _ _ => rfl⟩
theorem row_own {w : World} {base n : Nat} {e : TypeId} {size : Nat} {v : Value} {xs : List Value} (h : w.ownsRow base e size v n xs) : ∀ k, v.ownBlock = some k → base ≤ k := by
  obtain ⟨_, ⟨rfl, _⟩ | ⟨g, cap, cur, rfl, hb, _⟩⟩ := h
  · intro k hk; cases hk
  · intro k hk; cases hk; exact hb
theorem ex_grow {a b c : World} {v : Value} (h : Ex a b) (hg : b.grownBy c v.ownBlock) (hr : ∀ k, v.ownBlock = some k → a.heap.size ≤ k) : Ex a c :=
  ⟨hg.os.trans h.os, hg.tape.trans h.tape, hg.output.trans h.output, Nat.le_trans h.size hg.size, fun k hk => (hg.block k (Nat.lt_of_lt_of_le hk h.size) (fun e => by have := hr k e.symm; omega)).trans (h.block k hk)⟩

/-- To put nothing behind what is owned changes nothing. -/
theorem run_append_zero {P : Program} {w : World} (base : Nat) (t ty e : TypeId) (i : TypeInfo) (size : Nat) (ht : P.underlying t = some (.slice e)) (hi : P.info? e = some i)
    (v : Value) (n : Nat) (xs : List Value) (hown : w.ownsRow base e size v n xs) (a : Option Addr) (c : Nat) :
    (Builtin.append_ #[t, t] ty #[v, .slice a 0 c]).run P w = .ok v w := by
  rcases hown.2 with ⟨rfl, rfl⟩ | ⟨g, cap, cur, rfl, _, _, hnc, _⟩
  · cases a with
    | none => simp [Builtin.append_, run_underlying ht, sizeOf, typeInfo, hi, Builtin.lenOf, Builtin.firstCells]
    | some a => simp [Builtin.append_, run_underlying ht, sizeOf, typeInfo, hi, Builtin.lenOf, Builtin.firstCells, loadCells, loadCellsFrom]
  · cases a with
    | none => simp [Builtin.append_, run_underlying ht, sizeOf, typeInfo, hi, Builtin.lenOf, Builtin.firstCells, hnc, storeCells]
    | some a => simp [Builtin.append_, run_underlying ht, sizeOf, typeInfo, hi, Builtin.lenOf, Builtin.firstCells, hnc, storeCells, loadCells, loadCellsFrom]

/-- Values that lie in memory, a cell each. -/
def LS (w : World) (news : List Value) (a : Option Addr) : Prop := news.length = 0 ∨ ∃ b o, a = some ⟨b, o, none⟩ ∧ ∀ j u, news[j]? = some u → w.cell? ⟨b, o + j, none⟩ = some u

/-- Values, in memory or none, put behind what is owned: an operation of an ordered list. -/
theorem wpList_append_vals {P : Program} {w : World} {ops : Array Oper} {rest : List Oper} {o : Oper} {a : Act} {Q : Exit → Act → World → Prop} (hgd : o.guard = none) (s x : Operand) (t : TypeId)
    (ho : o.op = .call { callee := .builtin .append, args := #[s, x], argTypes := #[t, t] })
    (w0 : World) (hE : Ex w0 w) (e : TypeId) (i : TypeInfo) (z : Value) (bytes : Nat) (ht : P.underlying t = some (.slice e)) (hi : P.info? e = some i) (hz : i.zero = some z) (hsize : i.size = 1) (hby : i.bytes = bytes) (hzs : z.cells.size = 1) (hb64 : bytes ≤ 64)
    (v : Value) (n : Nat) (xs : List Value) (hs : a.eval s = v) (hown : w.ownsRow w0.heap.size e 1 v n xs)
    (pa : Option Addr) (pc m : Nat) (news : List Value) (hx : a.eval x = .slice pa m pc) (hm : news.length = m) (hL : LS w news pa) (h1 : ∀ u ∈ news, u.oneCell' = true)
    (h63 : n + m ≤ 1000000)
    (h : ∀ v' w', w'.ownsRow w0.heap.size e 1 v' (n + m) (xs ++ news) → w.grownBy w' v.ownBlock → Ex w0 w' → wpList P ops Q rest (a.put o.dst v') w') :
    wpList P ops Q (o :: rest) a w := by
  by_cases h0 : m = 0
  · subst h0
    have hn : news = [] := List.length_eq_zero_iff.mp hm
    subst hn
    refine wpList_plain hgd fun K hK => ?_
    have hrun := run_append_zero (P := P) (w := w) w0.heap.size t o.type e i 1 ht hi v n xs hown pa pc
    unfold Oper.wp
    simp [execOp, ho, resolve, invoke, builtin, hs, hx, hrun, Result.andThen]
    exact hK _ _ (h v w (by simpa using hown) (grown_same _ _) hE)
  · rcases hL with hL | ⟨b, of, rfl, hc⟩
    · omega
    · refine wpList_append_own w hgd s x t ho w0.heap.size e i z 1 bytes ht hi hz hsize hby hzs (by omega) v n xs hs hown ⟨b, of, none⟩ m pc news hx (by omega) ?_ h1 (by unfold maxLen; omega) (by
        have : (n + m) * bytes ≤ 1000000 * 64 := Nat.mul_le_mul h63 hb64
        omega) hE.size fun v' w' h2 h3 _ => h v' w' h2 h3 (ex_grow hE h3 (row_own hown))
      intro j u hu
      rw [Go.WideShapes.add_plain]
      exact hc j u hu

theorem LS_texts {w : World} {p : List ByteArray} {a : Option Addr} (h : XA w 0 p a) : LS w (p.map Value.string) a := by
  rcases h with h | ⟨b, o, e, _, hc⟩
  · exact Or.inl (by simpa using h)
  · refine Or.inr ⟨b, o, e, fun j u hu => ?_⟩
    rw [List.getElem?_map] at hu
    cases hj : p[j]? with
    | none => rw [hj] at hu; simp at hu
    | some t =>
      have hjl : j < p.length := by
        rcases Nat.lt_or_ge j p.length with h | h
        · exact h
        · rw [List.getElem?_eq_none h] at hj; cases hj
      rw [hc j hjl]
      rw [hj] at hu
      simp only [List.getD, hj, Option.getD_some]
      exact hu
theorem one_texts {p : List ByteArray} : ∀ u ∈ p.map Value.string, u.oneCell' = true := fun u hu => by obtain ⟨_, _, rfl⟩ := List.mem_map.mp hu; rfl

/-- Texts that are owned, as texts in memory. -/
theorem own_texts {w : World} {base n : Nat} {e : TypeId} {v : Value} {p : List ByteArray} (h : w.ownsRow base e 1 v n (p.map Value.string)) (hn : n = p.length) : ∃ a c, v = .slice a p.length c ∧ XA w base p a := by
  subst hn
  obtain ⟨_, ⟨rfl, h0⟩ | ⟨g, cap, cur, rfl, hb, hg, hnc, _, _, ht⟩⟩ := id h
  · refine ⟨none, 0, ?_, Or.inl h0⟩
    rw [h0]
  · refine ⟨_, _, rfl, Or.inr ⟨g, 0, rfl, hb, fun i hi => ?_⟩⟩
    rw [World.ownsRow.cellAt h (0 + i) (by omega)]
    simp [List.getD, hi]

/-- Names are words, none twice. -/
def uniqB (ns : List ByteArray) : Bool := (List.range ns.length).all fun i => wordB (ns.getD i ⟨#[]⟩) && !hasB (ns.take i) (ns.getD i ⟨#[]⟩)
def uniqAt (ns : List ByteArray) (i : Nat) : Bool := wordB (ns.getD i ⟨#[]⟩) && !hasB (ns.take i) (ns.getD i ⟨#[]⟩)
theorem uniqB_no {ns : List ByteArray} {i : Nat} (h : i < ns.length) (hb : uniqAt ns i = false) : uniqB ns = false := by
  cases hn : uniqB ns with
  | false => rfl
  | true =>
    simp only [uniqB, List.all_eq_true, List.mem_range] at hn
    have := hn i h
    rw [show (wordB (ns.getD i ⟨#[]⟩) && !hasB (ns.take i) (ns.getD i ⟨#[]⟩)) = false from hb] at this; cases this
theorem uniqB_yes {ns : List ByteArray} (h : ∀ i, i < ns.length → uniqAt ns i = true) : uniqB ns = true := by
  simp only [uniqB, List.all_eq_true, List.mem_range]
  exact h

/-- A binding is ok. -/
def kindB (fs : List PM) (rec : List ByteArray → BD → TM → Bool) (ns : List ByteArray) (k : Int) (nm : List ByteArray) (fn : ByteArray) (ts : TM) (tb : BD) (tz : TM) (eb : BD) (ez : TM) : Bool :=
  if k = 1 then decide (blen tb + tlen tz + blen eb + tlen ez = 0) && (decide (fn.size = 0) && (decide (nm.length = 1) && decide (tlen ts = 1)))
  else if k = 2 then decide (blen tb + tlen tz + blen eb + tlen ez = 0) && ((arityR fs fn).2.2 && (decide ((arityR fs fn).1 = tlen ts) && decide ((arityR fs fn).2.1 = nm.length)))
  else if k = 3 then decide (fn.size = 0) && (decide (tlen ts = 1) && (rec ns tb tz && (rec ns eb ez && (decide (tlen tz = nm.length) && decide (tlen ez = nm.length)))))
  else false
def bindB (fs : List PM) (rec : List ByteArray → BD → TM → Bool) (ns : List ByteArray) (k : Int) (nm : List ByteArray) (fn : ByteArray) (ts : TM) (tb : BD) (tz : TM) (eb : BD) (ez : TM) : Bool :=
  (decide (nm.length ≤ 60) && termsB ns ts) && (uniqB nm && kindB fs rec ns k nm fn ts tb tz eb ez)

/-- All names behind so many bindings. -/
def nsAt (ns : List ByteArray) (b : BD) : Nat → List ByteArray
  | 0 => ns
  | i + 1 => nsAt ns b i ++ bnames b i
def bindAt (fs : List PM) (rec : List ByteArray → BD → TM → Bool) (ns : List ByteArray) (b : BD) (i : Nat) : Bool := bindB fs rec (nsAt ns b i) (bkind b i) (bnames b i) (bfn b i) (bterms b i) (bthen b i) (btsay b i) (belse b i) (besay b i)

/-- A body is ok, at most so deep. -/
def bodyB (fs : List PM) : Nat → List ByteArray → BD → TM → Bool
  | 0, _, _, _ => false
  | d + 1, ns, b, z => decide (blen b ≤ 400) && ((List.range (blen b)).all (fun i => bindAt fs (bodyB fs d) ns b i) && termsB (nsAt ns b (blen b)) z)

theorem bodyB_len {fs : List PM} {d : Nat} {ns : List ByteArray} {b : BD} {z : TM} (h : 400 < blen b) : bodyB fs (d + 1) ns b z = false := by simp [bodyB, show ¬ blen b ≤ 400 by omega]
theorem bodyB_no {fs : List PM} {d i : Nat} {ns : List ByteArray} {b : BD} {z : TM} (h : i < blen b) (hb : bindAt fs (bodyB fs d) ns b i = false) : bodyB fs (d + 1) ns b z = false := by
  have : (List.range (blen b)).all (fun i => bindAt fs (bodyB fs d) ns b i) = false := by
    rw [List.all_eq_false]
    exact ⟨i, List.mem_range.2 h, by rw [hb]; simp⟩
  simp [bodyB, this]
theorem bodyB_end {fs : List PM} {d : Nat} {ns : List ByteArray} {b : BD} {z : TM} (h1 : blen b ≤ 400) (h : ∀ i, i < blen b → bindAt fs (bodyB fs d) ns b i = true) : bodyB fs (d + 1) ns b z = termsB (nsAt ns b (blen b)) z := by
  have : (List.range (blen b)).all (fun i => bindAt fs (bodyB fs d) ns b i) = true := by
    rw [List.all_eq_true]
    intro i hi
    exact h i (List.mem_range.1 hi)
  simp only [bodyB, this, h1, decide_true, Bool.true_and]
theorem bind_names {fs : List PM} {d i : Nat} {ns : List ByteArray} {b : BD} (h : bindAt fs (bodyB fs d) ns b i = true) : (bnames b i).length ≤ 60 := by
  simp only [bindAt, bindB, Bool.and_eq_true, decide_eq_true_eq] at h
  exact h.1.1

/-- All lists are of a length that can be counted. -/
def BSm : BD → Prop
  | .nil => True
  | .node _ _ _ _ .nil => True
  | .node _ _ (_, ns, _, ts, tz, ez) tb (.node _ _ _ eb r) => ns.length ≤ 1000000000 ∧ tlen ts ≤ 1000000000 ∧ TSm ts ∧ blen tb ≤ 1000000000 ∧ BSm tb ∧ tlen tz ≤ 1000000000 ∧ TSm tz ∧ blen eb ≤ 1000000000 ∧ BSm eb ∧ tlen ez ≤ 1000000000 ∧ TSm ez ∧ BSm r
theorem BSm_at : ∀ {f : BD}, BSm f → ∀ i, i < blen f → (bnames f i).length ≤ 1000000000 ∧ tlen (bterms f i) ≤ 1000000000 ∧ blen (bthen f i) ≤ 1000000000 ∧ BSm (bthen f i) ∧ tlen (btsay f i) ≤ 1000000000 ∧ blen (belse f i) ≤ 1000000000 ∧ BSm (belse f i) ∧ tlen (besay f i) ≤ 1000000000
  | .nil, _, i, h => by simp [blen] at h
  | .node _ _ _ _ .nil, _, i, h => by simp [blen] at h
  | .node _ _ (_, _, _, _, _, _) _ (.node _ _ _ _ r), hs, 0, _ => ⟨hs.1, hs.2.1, hs.2.2.2.1, hs.2.2.2.2.1, hs.2.2.2.2.2.1, hs.2.2.2.2.2.2.2.1, hs.2.2.2.2.2.2.2.2.1, hs.2.2.2.2.2.2.2.2.2.1⟩
  | .node _ _ (_, _, _, _, _, _) _ (.node _ _ _ _ r), hs, i + 1, h => BSm_at hs.2.2.2.2.2.2.2.2.2.2.2 i (by simp only [blen] at h; omega)

end Go.Proofs.YtldbmlojgakieaaDoor

namespace Go.Proofs.YtldbmlojgakieaaDoor

open Go.RowKit Go.Deep

attribute [local go_sem ↓] Go.wp_at_zero Go.wp_at_succ

set_option maxHeartbeats 2000000 in
theorem nameByte_any (n : Nat) (w : World) : Calls Tryd.prog 48 #[.int .u8 (n : Int)] w fun e w' => e = .returned (.bool (wletter n)) ∧ Ex w w' := by
  rcases byte_class n with h | h | h | h | h | h | h | h | h
  · have L : Hid (wletter n = false) := by show wletter n = _; simp [wletter]; omega
    have w0 : decide ((97 : Int) ≤ (n : Int)) = false := by simp; omega
    have w1 : decide ((n : Int) ≤ 122) = true := by simp; omega
    have w2 : decide ((65 : Int) ≤ (n : Int)) = false := by simp; omega
    have w3 : decide ((n : Int) ≤ 90) = true := by simp; omega
    have w4 : decide ((48 : Int) ≤ (n : Int)) = false := by simp; omega
    have w5 : decide ((n : Int) ≤ 57) = true := by simp; omega
    have w6 : ((n : Int) == 95) = false := by simp; omega
    clear h
    go_enter Tryd.func48, Tryd.ntmps48
    go_wp2_with fail
    go_ret
    exact ⟨ret_b L.out.symm, Ex.refl _⟩
  · have L : Hid (wletter n = true) := by show wletter n = _; simp [wletter]; omega
    have w0 : decide ((97 : Int) ≤ (n : Int)) = false := by simp; omega
    have w1 : decide ((n : Int) ≤ 122) = true := by simp; omega
    have w2 : decide ((65 : Int) ≤ (n : Int)) = false := by simp; omega
    have w3 : decide ((n : Int) ≤ 90) = true := by simp; omega
    have w4 : decide ((48 : Int) ≤ (n : Int)) = true := by simp; omega
    have w5 : decide ((n : Int) ≤ 57) = true := by simp; omega
    have w6 : ((n : Int) == 95) = false := by simp; omega
    clear h
    go_enter Tryd.func48, Tryd.ntmps48
    go_wp2_with fail
    go_ret
    exact ⟨ret_b L.out.symm, Ex.refl _⟩
  · have L : Hid (wletter n = false) := by show wletter n = _; simp [wletter]; omega
    have w0 : decide ((97 : Int) ≤ (n : Int)) = false := by simp; omega
    have w1 : decide ((n : Int) ≤ 122) = true := by simp; omega
    have w2 : decide ((65 : Int) ≤ (n : Int)) = false := by simp; omega
    have w3 : decide ((n : Int) ≤ 90) = true := by simp; omega
    have w4 : decide ((48 : Int) ≤ (n : Int)) = true := by simp; omega
    have w5 : decide ((n : Int) ≤ 57) = false := by simp; omega
    have w6 : ((n : Int) == 95) = false := by simp; omega
    clear h
    go_enter Tryd.func48, Tryd.ntmps48
    go_wp2_with fail
    go_ret
    exact ⟨ret_b L.out.symm, Ex.refl _⟩
  · have L : Hid (wletter n = true) := by show wletter n = _; simp [wletter]; omega
    have w0 : decide ((97 : Int) ≤ (n : Int)) = false := by simp; omega
    have w1 : decide ((n : Int) ≤ 122) = true := by simp; omega
    have w2 : decide ((65 : Int) ≤ (n : Int)) = true := by simp; omega
    have w3 : decide ((n : Int) ≤ 90) = true := by simp; omega
    have w4 : decide ((48 : Int) ≤ (n : Int)) = true := by simp; omega
    have w5 : decide ((n : Int) ≤ 57) = false := by simp; omega
    have w6 : ((n : Int) == 95) = false := by simp; omega
    clear h
    go_enter Tryd.func48, Tryd.ntmps48
    go_wp2_with fail
    go_ret
    exact ⟨ret_b L.out.symm, Ex.refl _⟩
  · have L : Hid (wletter n = false) := by show wletter n = _; simp [wletter]; omega
    have w0 : decide ((97 : Int) ≤ (n : Int)) = false := by simp; omega
    have w1 : decide ((n : Int) ≤ 122) = true := by simp; omega
    have w2 : decide ((65 : Int) ≤ (n : Int)) = true := by simp; omega
    have w3 : decide ((n : Int) ≤ 90) = false := by simp; omega
    have w4 : decide ((48 : Int) ≤ (n : Int)) = true := by simp; omega
    have w5 : decide ((n : Int) ≤ 57) = false := by simp; omega
    have w6 : ((n : Int) == 95) = false := by simp; omega
    clear h
    go_enter Tryd.func48, Tryd.ntmps48
    go_wp2_with fail
    go_ret
    exact ⟨ret_b L.out.symm, Ex.refl _⟩
  · have L : Hid (wletter n = true) := by show wletter n = _; simp [wletter]; omega
    have w0 : decide ((97 : Int) ≤ (n : Int)) = false := by simp; omega
    have w1 : decide ((n : Int) ≤ 122) = true := by simp; omega
    have w2 : decide ((65 : Int) ≤ (n : Int)) = true := by simp; omega
    have w3 : decide ((n : Int) ≤ 90) = false := by simp; omega
    have w4 : decide ((48 : Int) ≤ (n : Int)) = true := by simp; omega
    have w5 : decide ((n : Int) ≤ 57) = false := by simp; omega
    have w6 : ((n : Int) == 95) = true := by simp; omega
    clear h
    go_enter Tryd.func48, Tryd.ntmps48
    go_wp2_with fail
    go_ret
    exact ⟨ret_b L.out.symm, Ex.refl _⟩
  · have L : Hid (wletter n = false) := by show wletter n = _; simp [wletter]; omega
    have w0 : decide ((97 : Int) ≤ (n : Int)) = false := by simp; omega
    have w1 : decide ((n : Int) ≤ 122) = true := by simp; omega
    have w2 : decide ((65 : Int) ≤ (n : Int)) = true := by simp; omega
    have w3 : decide ((n : Int) ≤ 90) = false := by simp; omega
    have w4 : decide ((48 : Int) ≤ (n : Int)) = true := by simp; omega
    have w5 : decide ((n : Int) ≤ 57) = false := by simp; omega
    have w6 : ((n : Int) == 95) = false := by simp; omega
    clear h
    go_enter Tryd.func48, Tryd.ntmps48
    go_wp2_with fail
    go_ret
    exact ⟨ret_b L.out.symm, Ex.refl _⟩
  · have L : Hid (wletter n = true) := by show wletter n = _; simp [wletter]; omega
    have w0 : decide ((97 : Int) ≤ (n : Int)) = true := by simp; omega
    have w1 : decide ((n : Int) ≤ 122) = true := by simp; omega
    have w2 : decide ((65 : Int) ≤ (n : Int)) = true := by simp; omega
    have w3 : decide ((n : Int) ≤ 90) = false := by simp; omega
    have w4 : decide ((48 : Int) ≤ (n : Int)) = true := by simp; omega
    have w5 : decide ((n : Int) ≤ 57) = false := by simp; omega
    have w6 : ((n : Int) == 95) = false := by simp; omega
    clear h
    go_enter Tryd.func48, Tryd.ntmps48
    go_wp2_with fail
    go_ret
    exact ⟨ret_b L.out.symm, Ex.refl _⟩
  · have L : Hid (wletter n = false) := by show wletter n = _; simp [wletter]; omega
    have w0 : decide ((97 : Int) ≤ (n : Int)) = true := by simp; omega
    have w1 : decide ((n : Int) ≤ 122) = false := by simp; omega
    have w2 : decide ((65 : Int) ≤ (n : Int)) = true := by simp; omega
    have w3 : decide ((n : Int) ≤ 90) = false := by simp; omega
    have w4 : decide ((48 : Int) ≤ (n : Int)) = true := by simp; omega
    have w5 : decide ((n : Int) ≤ 57) = false := by simp; omega
    have w6 : ((n : Int) == 95) = false := by simp; omega
    clear h
    go_enter Tryd.func48, Tryd.ntmps48
    go_wp2_with fail
    go_ret
    exact ⟨ret_b L.out.symm, Ex.refl _⟩

set_option maxHeartbeats 2000000 in
theorem nameOk_any (s : ByteArray) (w : World) : Calls Tryd.prog 36 #[.string s] w fun e w' => e = .returned (.bool (wordB s)) ∧ Ex w w' := by
  by_cases h1 : s.size < 1
  · have HR : Hid (wordB s = false) := wordB_size (Or.inl h1)
    have d1 : s.toList.isEmpty = true := empty_size (by omega)
    go_enter Tryd.func36, Tryd.ntmps36
    go_wp2_with fail
    go_ret
    exact ⟨ret_b HR.out.symm, Ex.refl _⟩
  have d1 : s.toList.isEmpty = false := full_size (by omega)
  by_cases h6 : 12 < s.size
  · have HR : Hid (wordB s = false) := wordB_size (Or.inr h6)
    have d2 : decide ((12 : Int) < (s.size : Int)) = true := by simp; omega
    go_enter Tryd.func36, Tryd.ntmps36
    go_wp2_with fail
    go_ret
    exact ⟨ret_b HR.out.symm, Ex.refl _⟩
  have d2 : decide ((12 : Int) < (s.size : Int)) = false := by simp; omega
  go_enter Tryd.func36, Tryd.ntmps36
  go_wp2_with fail
  go_loopw [3, 13] (fun _ i wr => ∃ (k : Nat), k ≤ s.size ∧ i = .int .i64 k ∧ (∀ j, j < k → wletter (wbt s j) = true) ∧ Ex w wr) (fun _ i _ => s.size - (intOf i).toNat)
  case atStart => exact ⟨0, by omega, rfl, fun j hj => by omega, Ex.refl _⟩
  case round =>
    obtain ⟨k, hk, rfl, hall, hx⟩ := hrel
    have A : Hid (∀ j, j < k → wletter (wbt s j) = true) := hall
    have X : Hid (Ex w wr) := hx
    clear hall hx
    by_cases hlt : k < s.size
    · have N : Hid (wletter (wbt s k) = false → wordB s = false) := wordB_no hlt
      have U : Hid (wletter (wbt s k) = true → ∀ j, j < k + 1 → wletter (wbt s j) = true) := fun h => upto_succ A.out h
      have HB : Hid _ := nameByte_any (wbt s k) wr
      rw [← wbt_at s k hlt] at HB N U
      have i0 : (0 : Int) ≤ (k : Int) := by omega
      have i1 : (k : Int) < (s.size : Int) := by omega
      go_wp2_with fail
      refine Calls.mono HB.out ?_
      rintro e w1 ⟨rfl, hb1⟩
      clear HB
      cases hL : wletter ((s[k]'hlt).toNat) with
      | false =>
        have HR : Hid (wordB s = false) := N.out hL
        go_wp2_with fail
        go_ret
        exact ⟨ret_b HR.out.symm, X.out.trans hb1⟩
      | true =>
        have HU : Hid _ := U.out hL
        clear hL
        go_wp2_with fail
        go_roundw
        case rel => exact ⟨k + 1, by omega, by go_num, HU.out, X.out.trans hb1⟩
        case measure => simp [intOf]; omega
    · have HR : Hid (wordB s = true) := wordB_yes (by omega) (by omega) fun i hi => A.out i (by omega)
      go_wp2_with fail
      go_ret
      exact ⟨ret_b HR.out.symm, X.out⟩

set_option maxHeartbeats 1000000 in
theorem pathOk_any (p : List Int) (a : Option Addr) (c : Nat) (w : World) (hP : PA w 0 p a) : Calls Tryd.prog 50 #[.slice a p.length c] w fun e w' => e = .returned (.bool (decide (p.length ≤ 4) && pathB p)) ∧ Ex w w' := by
  have P : Hid (∀ w', Ex w w' → PA w' 0 p a) := fun _ h => PA_below hP h
  clear hP
  by_cases h4 : 4 < p.length
  · have HR : Hid ((decide (p.length ≤ 4) && pathB p) = false) := by show _ = _; rw [decide_eq_false (by omega)]; rfl
    have d1 : decide ((4 : Int) < (p.length : Int)) = true := decide_eq_true (by omega)
    go_enter Tryd.func50, Tryd.ntmps50
    go_wp2_with fail
    go_ret
    exact ⟨ret_b HR.out.symm, Ex.refl _⟩
  have HD : Hid ((decide (p.length ≤ 4) && pathB p) = pathB p) := by show _ = _; rw [decide_eq_true (by omega)]; rfl
  have d1 : decide ((4 : Int) < (p.length : Int)) = false := decide_eq_false (by omega)
  go_enter Tryd.func50, Tryd.ntmps50
  go_wp2_with fail
  go_loopw [4, 10] (fun _ i wr => ∃ (j : Nat), j ≤ p.length ∧ i = .int .i64 j ∧ (∀ l, l < j → 0 ≤ p.getD l 0 ∧ p.getD l 0 ≤ 1) ∧ Ex w wr) (fun _ i _ => p.length - (intOf i).toNat)
  case atStart => exact ⟨0, by omega, rfl, fun j hj => by omega, Ex.refl _⟩
  case round =>
    obtain ⟨j, hj, rfl, hall, hx⟩ := hrel
    have A : Hid (∀ l, l < j → 0 ≤ p.getD l 0 ∧ p.getD l 0 ≤ 1) := hall
    have X : Hid (Ex w wr) := hx
    clear hall hx
    by_cases hlt : j < p.length
    · obtain ⟨b, o, rfl, hbs, _, hc⟩ := PA_at (P.out wr X.out) (by omega)
      have ck := hc j hlt
      have U : Hid ((0 ≤ p.getD j 0 ∧ p.getD j 0 ≤ 1) → ∀ l, l < j + 1 → 0 ≤ p.getD l 0 ∧ p.getD l 0 ≤ 1) := fun h => upto_succ A.out h
      have V : Hid (¬ (0 ≤ p.getD j 0 ∧ p.getD j 0 ≤ 1) → pathB p = false) := fun h => pathB_no hlt h
      obtain ⟨x, hxe⟩ : ∃ x, p.getD j 0 = x := ⟨_, rfl⟩
      rw [hxe] at ck U V
      clear hxe hc
      by_cases hx0 : x = 0
      · have HU : Hid _ := U.out (by omega)
        have e0 : (x != 0) = false := by simp [hx0]
        have X0 : Hid (x = 0) := hx0
        clear hx0 U V
        go_wp2_with fail
        go_roundw
        case rel => exact ⟨j + 1, by omega, by go_num, HU.out, X.out⟩
        case measure => simp [intOf]; omega
      have e0 : (x != 0) = true := by simp [hx0]
      by_cases hx1 : x = 1
      · have HU : Hid _ := U.out (by omega)
        have e1 : (x != 1) = false := by simp [hx1]
        have X0 : Hid (x = 1) := hx1
        clear hx0 hx1 U V
        go_wp2_with fail
        go_roundw
        case rel => exact ⟨j + 1, by omega, by go_num, HU.out, X.out⟩
        case measure => simp [intOf]; omega
      have e1 : (x != 1) = true := by simp [hx1]
      have HR : Hid ((decide (p.length ≤ 4) && pathB p) = false) := HD.out.trans (V.out (by omega))
      clear U V
      go_wp2_with fail
      go_ret
      exact ⟨ret_b HR.out.symm, X.out⟩
    · have HR : Hid ((decide (p.length ≤ 4) && pathB p) = true) := HD.out.trans (pathB_yes fun l hl => A.out l (by omega))
      go_wp2_with fail
      go_ret
      exact ⟨ret_b HR.out.symm, X.out⟩

end Go.Proofs.YtldbmlojgakieaaDoor

namespace Go.Proofs.YtldbmlojgakieaaDoor

open Go.RowKit Go.Deep

attribute [local go_sem ↓] Go.wp_at_zero Go.wp_at_succ

/-- A term has just what its kind says, as the program asks it. -/
def tokB (k n : Int) (s : ByteArray) (p : List Int) (l : Nat) : Bool :=
  if k = 1 then decide (s.size = 0) && (decide (p.length = 0) && (decide (l = 0) && (decide (0 ≤ n) && decide (n ≤ 9999))))
  else if k = 2 then decide (n = 0) && (decide (p.length = 0) && decide (l = 0))
  else if k = 3 ∨ k = 4 ∨ k = 5 ∨ k = 6 then decide (n = 0) && (decide (s.size = 0) && (decide (p.length = 0) && decide (l = 2)))
  else if k = 7 then decide (n = 0) && (decide (s.size = 0) && ((decide (p.length ≤ 4) && pathB p) && decide (l = 1)))
  else if k = 8 then decide (n = 0) && (decide (s.size = 0) && ((decide (p.length ≤ 4) && pathB p) && decide (l = 2)))
  else false
theorem tokB_1 {n : Int} {s : ByteArray} {p : List Int} {l : Nat} : tokB 1 n s p l = (decide (s.size = 0) && (decide (p.length = 0) && (decide (l = 0) && (decide (0 ≤ n) && decide (n ≤ 9999))))) := rfl
theorem tokB_2 {n : Int} {s : ByteArray} {p : List Int} {l : Nat} : tokB 2 n s p l = (decide (n = 0) && (decide (p.length = 0) && decide (l = 0))) := rfl
theorem tokB_7 {n : Int} {s : ByteArray} {p : List Int} {l : Nat} : tokB 7 n s p l = (decide (n = 0) && (decide (s.size = 0) && ((decide (p.length ≤ 4) && pathB p) && decide (l = 1)))) := rfl
theorem tokB_8 {n : Int} {s : ByteArray} {p : List Int} {l : Nat} : tokB 8 n s p l = (decide (n = 0) && (decide (s.size = 0) && ((decide (p.length ≤ 4) && pathB p) && decide (l = 2)))) := rfl
theorem tokB_3 {k n : Int} {s : ByteArray} {p : List Int} {l : Nat} (h : k = 3 ∨ k = 4 ∨ k = 5 ∨ k = 6) : tokB k n s p l = (decide (n = 0) && (decide (s.size = 0) && (decide (p.length = 0) && decide (l = 2)))) := by
  unfold tokB; rw [if_neg (by omega), if_neg (by omega), if_pos h]
theorem tokB_o {k n : Int} {s : ByteArray} {p : List Int} {l : Nat} (h : ¬ (1 ≤ k ∧ k ≤ 8)) : tokB k n s p l = false := by
  unfold tokB; rw [if_neg (by omega), if_neg (by omega), if_neg (by omega), if_neg (by omega), if_neg (by omega)]

theorem dec_n (n : Int) : decide (n = 0) = (n == 0) := by
  by_cases h : n = 0
  · rw [decide_eq_true h, beq_iff_eq.mpr h]
  · rw [decide_eq_false h, beq_eq_false_iff_ne.mpr h]
theorem dec_s (s : ByteArray) : decide (s.size = 0) = s.toList.isEmpty := by
  by_cases h : s.size = 0
  · rw [decide_eq_true h, empty_size h]
  · rw [decide_eq_false h, full_size h]
theorem dec_l (l m : Nat) : decide (l = m) = ((l : Int) == (m : Int)) := by
  by_cases h : l = m
  · rw [decide_eq_true h, beq_iff_eq.mpr (by omega)]
  · rw [decide_eq_false h, beq_eq_false_iff_ne.mpr (by omega)]

set_option maxRecDepth 100000 in
set_option maxHeartbeats 4000000 in
theorem termOk_any (k n : Int) (s : ByteArray) (p : List Int) (pa : Option Addr) (pc l : Nat) (a : Option Addr) (c : Nat) (w : World) (hP : PA w 0 p pa) :
    Calls Tryd.prog 38 #[.agg #[.int .i64 k, .int .i64 n, .string s, .slice pa p.length pc, .slice a l c]] w fun e w' => e = .returned (.bool (tokB k n s p l)) ∧ Ex w w' := by
  have P : Hid (∀ w', Ex w w' → PA w' 0 p pa) := fun _ h => PA_below hP h
  have N : Hid (Ex w (w.alloc (.cells #[.int .i64 k, .int .i64 n, .string s, .slice pa p.length pc, .slice a l c] 28))) := Ex.new _ _
  have C : Hid (∀ w', Ex (w.alloc (.cells #[.int .i64 k, .int .i64 n, .string s, .slice pa p.length pc, .slice a l c] 28)) w' → w'.cell? ⟨w.heap.size, 0, none⟩ = some (.int .i64 k) ∧ w'.cell? ⟨w.heap.size, 1, none⟩ = some (.int .i64 n) ∧ w'.cell? ⟨w.heap.size, 2, none⟩ = some (.string s) ∧ w'.cell? ⟨w.heap.size, 3, none⟩ = some (.slice pa p.length pc) ∧ w'.cell? ⟨w.heap.size, 4, none⟩ = some (.slice a l c)) := fun w' h => ⟨h.at (by simp), h.at (by simp), h.at (by simp), h.at (by simp), h.at (by simp)⟩
  have KS : Hid (∀ w', Ex (w.alloc (.cells #[.int .i64 k, .int .i64 n, .string s, .slice pa p.length pc, .slice a l c] 28)) w' → (Ex (w.alloc (.cells #[.int .i64 k, .int .i64 n, .string s, .slice pa p.length pc, .slice a l c] 28)) w' ∧ w'.cell? ⟨w.heap.size, 0, none⟩ = some (.int .i64 k) ∧ w'.cell? ⟨w.heap.size, 1, none⟩ = some (.int .i64 n) ∧ w'.cell? ⟨w.heap.size, 2, none⟩ = some (.string s) ∧ w'.cell? ⟨w.heap.size, 3, none⟩ = some (.slice pa p.length pc) ∧ w'.cell? ⟨w.heap.size, 4, none⟩ = some (.slice a l c))) := fun w' h => ⟨h, C.out w' h⟩
  clear hP
  obtain ⟨R, hR⟩ : ∃ R, R = tokB k n s p l := ⟨_, rfl⟩
  have RR : Hid (R = tokB k n s p l) := hR
  rw [← hR]
  obtain ⟨bn, hbn⟩ : ∃ b, (n == 0) = b := ⟨_, rfl⟩
  obtain ⟨bs, hbs⟩ : ∃ b, s.toList.isEmpty = b := ⟨_, rfl⟩
  obtain ⟨bp, hbp⟩ : ∃ b, ((p.length : Int) == 0) = b := ⟨_, rfl⟩
  have Dn : Hid (decide (n = 0) = bn) := (dec_n n).trans hbn
  have Ds : Hid (decide (s.size = 0) = bs) := (dec_s s).trans hbs
  have Dp : Hid (decide (p.length = 0) = bp) := (dec_l p.length 0).trans hbp
  obtain ⟨bq, hbq⟩ : ∃ b, (decide (p.length ≤ 4) && pathB p) = b := ⟨_, rfl⟩
  have Dq : Hid ((decide (p.length ≤ 4) && pathB p) = bq) := hbq
  have PO : Hid (∀ w', Ex w w' → Calls Tryd.prog 50 #[.slice pa p.length pc] w' fun e w'' => e = .returned (.bool bq) ∧ Ex w' w'') := fun w' h => by have := pathOk_any p pa pc w' (P.out w' h); rw [Dq.out] at this; exact this
  clear hR hbq
  go_enter Tryd.func38, Tryd.ntmps38
  go_wp2_with fail
  refine wp_region_held_drew (S := fun w' => Ex (w.alloc (.cells #[.int .i64 k, .int .i64 n, .string s, .slice pa p.length pc, .slice a l c] 28)) w' ∧ w'.cell? ⟨w.heap.size, 0, none⟩ = some (.int .i64 k) ∧ w'.cell? ⟨w.heap.size, 1, none⟩ = some (.int .i64 n) ∧ w'.cell? ⟨w.heap.size, 2, none⟩ = some (.string s) ∧ w'.cell? ⟨w.heap.size, 3, none⟩ = some (.slice pa p.length pc) ∧ w'.cell? ⟨w.heap.size, 4, none⟩ = some (.slice a l c)) (by kernel_rfl) (KS.out _ (Ex.refl _).drew) (fun hHeld => ?_)
  refine wpAnyH_take (i := 0) (v := ?_) rfl (by kernel_rfl) (by kernel_rfl) (by kernel_rfl) (fun _ _ _ h => h) (Or.inl ⟨by rfl, ?_⟩) (by assumption) ?_
  rotate_left
  · (intro w' hSw; (try dsimp only at hSw); go_simp) <;> with_reducible rfl
  change wpAnyH Tryd.prog _ _ _ _ _ _ (Act.put _ (some 6) _) _
  (try simp only [Act.put, List.setIfInBounds_toArray, List.set_cons_zero, List.set_cons_succ])
  refine wpAnyH_take (i := 1) (v := ?_) rfl (by kernel_rfl) (by kernel_rfl) (by kernel_rfl) (fun _ _ _ h => h) (Or.inl ⟨by rfl, ?_⟩) (by assumption) ?_
  rotate_left
  · (intro w' hSw; (try dsimp only at hSw); go_simp) <;> with_reducible rfl
  change wpAnyH Tryd.prog _ _ _ _ _ _ (Act.put _ (some 7) _) _
  (try simp only [Act.put, List.setIfInBounds_toArray, List.set_cons_zero, List.set_cons_succ])
  refine wpAnyH_take (i := 2) (v := ?_) rfl (by kernel_rfl) (by kernel_rfl) (by kernel_rfl) (fun _ _ _ h => h) (Or.inl ⟨by rfl, ?_⟩) (by assumption) ?_
  rotate_left
  · (intro w' hSw; (try dsimp only at hSw); go_simp) <;> with_reducible rfl
  change wpAnyH Tryd.prog _ _ _ _ _ _ (Act.put _ (some 8) _) _
  (try simp only [Act.put, List.setIfInBounds_toArray, List.set_cons_zero, List.set_cons_succ])
  refine wpAnyH_take (i := 3) (v := ?_) rfl (by kernel_rfl) (by kernel_rfl) (by kernel_rfl) (fun _ _ _ h => h) (Or.inl ⟨by rfl, ?_⟩) (by assumption) ?_
  rotate_left
  · (intro w' hSw; (try dsimp only at hSw); go_simp) <;> with_reducible rfl
  change wpAnyH Tryd.prog _ _ _ _ _ _ (Act.put _ (some 9) _) _
  (try simp only [Act.put, List.setIfInBounds_toArray, List.set_cons_zero, List.set_cons_succ])
  refine wpAnyH_take (i := 4) (v := ?_) rfl (by kernel_rfl) (by kernel_rfl) (by kernel_rfl) (fun _ _ _ h => h) (Or.inl ⟨by rfl, ?_⟩) (by assumption) ?_
  rotate_left
  · (intro w' hSw; (try dsimp only at hSw); go_simp) <;> with_reducible rfl
  change wpAnyH Tryd.prog _ _ _ _ _ _ (Act.put _ (some 10) _) _
  (try simp only [Act.put, List.setIfInBounds_toArray, List.set_cons_zero, List.set_cons_succ])
  refine wpAnyH_take (i := 5) (v := ?_) rfl (by kernel_rfl) (by kernel_rfl) (by kernel_rfl) (fun _ _ _ h => h) (Or.inl ⟨by rfl, ?_⟩) (by assumption) ?_
  rotate_left
  · (intro w' hSw; (try dsimp only at hSw); go_simp) <;> with_reducible rfl
  change wpAnyH Tryd.prog _ _ _ _ _ _ (Act.put _ (some 11) _) _
  (try simp only [Act.put, List.setIfInBounds_toArray, List.set_cons_zero, List.set_cons_succ])
  refine wpAnyH_take (i := 6) (v := ?_) rfl (by kernel_rfl) (by kernel_rfl) (by kernel_rfl) (fun _ _ _ h => h) (Or.inl ⟨by rfl, ?_⟩) (by assumption) ?_
  rotate_left
  · (intro w' hSw; (try dsimp only at hSw); go_simp) <;> with_reducible rfl
  change wpAnyH Tryd.prog _ _ _ _ _ _ (Act.put _ (some 12) _) _
  (try simp only [Act.put, List.setIfInBounds_toArray, List.set_cons_zero, List.set_cons_succ])
  refine wpAnyH_take (i := 7) (v := ?_) rfl (by kernel_rfl) (by kernel_rfl) (by kernel_rfl) (fun _ _ _ h => h) (Or.inl ⟨by rfl, ?_⟩) (by assumption) ?_
  rotate_left
  · (intro w' hSw; (try dsimp only at hSw); go_simp) <;> with_reducible rfl
  change wpAnyH Tryd.prog _ _ _ _ _ _ (Act.put _ (some 13) _) _
  (try simp only [Act.put, List.setIfInBounds_toArray, List.set_cons_zero, List.set_cons_succ])
  refine wpAnyH_take (i := 8) (v := ?_) rfl (by kernel_rfl) (by kernel_rfl) (by kernel_rfl) (fun _ _ _ h => h) (Or.inl ⟨by rfl, ?_⟩) (by assumption) ?_
  rotate_left
  · (intro w' hSw; (try dsimp only at hSw); go_simp) <;> with_reducible rfl
  change wpAnyH Tryd.prog _ _ _ _ _ _ (Act.put _ (some 14) _) _
  (try simp only [Act.put, List.setIfInBounds_toArray, List.set_cons_zero, List.set_cons_succ])
  refine wpAnyH_take (i := 9) (v := ?_) rfl (by kernel_rfl) (by kernel_rfl) (by kernel_rfl) (fun _ _ _ h => h) (Or.inl ⟨by rfl, ?_⟩) (by assumption) ?_
  rotate_left
  · (intro w' hSw; (try dsimp only at hSw); go_simp) <;> with_reducible rfl
  change wpAnyH Tryd.prog _ _ _ _ _ _ (Act.put _ (some 15) _) _
  (try simp only [Act.put, List.setIfInBounds_toArray, List.set_cons_zero, List.set_cons_succ])
  refine wpAnyH_take (i := 10) (v := ?_) rfl (by kernel_rfl) (by kernel_rfl) (by kernel_rfl) (fun _ _ _ h => h) (Or.inl ⟨by rfl, ?_⟩) (by assumption) ?_
  rotate_left
  · (intro w' hSw; (try dsimp only at hSw); go_simp) <;> with_reducible rfl
  change wpAnyH Tryd.prog _ _ _ _ _ _ (Act.put _ (some 3) _) _
  (try simp only [Act.put, List.setIfInBounds_toArray, List.set_cons_zero, List.set_cons_succ])
  refine wpAnyH_take (i := 11) (v := ?_) rfl (by kernel_rfl) (by kernel_rfl) (by kernel_rfl) (fun _ _ _ h => h) (Or.inl ⟨by rfl, ?_⟩) (by assumption) ?_
  rotate_left
  · (intro w' hSw; (try dsimp only at hSw); go_simp) <;> with_reducible rfl
  change wpAnyH Tryd.prog _ _ _ _ _ _ (Act.put _ (some 4) _) _
  (try simp only [Act.put, List.setIfInBounds_toArray, List.set_cons_zero, List.set_cons_succ])
  refine wpAnyH_take (i := 12) (v := ?_) rfl (by kernel_rfl) (by kernel_rfl) (by kernel_rfl) (fun _ _ _ h => h) (Or.inl ⟨by rfl, ?_⟩) (by assumption) ?_
  rotate_left
  · (intro w' hSw; (try dsimp only at hSw); go_simp) <;> with_reducible rfl
  change wpAnyH Tryd.prog _ _ _ _ _ _ (Act.put _ (some 5) _) _
  (try simp only [Act.put, List.setIfInBounds_toArray, List.set_cons_zero, List.set_cons_succ])
  refine wpAnyH_done (by kernel_rfl) ?_ _

  obtain ⟨hx1, c0, c1, c2, c3, c4⟩ := hHeld
  have X1 : Hid (Ex (w.alloc (.cells #[.int .i64 k, .int .i64 n, .string s, .slice pa p.length pc, .slice a l c] 28)) _) := hx1
  clear hx1 hbn hbs hbp
  by_cases k1 : k = 1
  · subst k1
    cases bs with
    | false =>
      have HV : Hid (R = false) := RR.out.trans (by rw [tokB_1, Ds.out]; rfl)
      go_wp2_with fail
      go_ret
      exact ⟨ret_b HV.out.symm, N.out.trans X1.out⟩
    | true =>
      cases bp with
      | false =>
        have HV : Hid (R = false) := RR.out.trans (by rw [tokB_1, Ds.out, Dp.out]; rfl)
        go_wp2_with fail
        go_ret
        exact ⟨ret_b HV.out.symm, N.out.trans X1.out⟩
      | true =>
        by_cases hl : l = 0
        · have l1 : ((l : Int) == 0) = true := by rw [beq_iff_eq]; omega
          have HL : Hid (l = 0) := hl
          clear hl
          by_cases hn0 : 0 ≤ n
          · have hn01 : decide (0 ≤ n) = true := decide_eq_true hn0
            by_cases hn9 : n ≤ 9999
            · have hn91 : decide (n ≤ 9999) = true := decide_eq_true hn9
              have HV : Hid (R = true) := RR.out.trans (by rw [tokB_1, Ds.out, Dp.out, decide_eq_true HL.out, decide_eq_true hn0, decide_eq_true hn9]; rfl)
              go_wp2_with fail
              go_ret
              exact ⟨ret_b HV.out.symm, N.out.trans X1.out⟩
            · have hn91 : decide (n ≤ 9999) = false := decide_eq_false hn9
              have HV : Hid (R = false) := RR.out.trans (by rw [tokB_1, Ds.out, Dp.out, decide_eq_true HL.out, decide_eq_true hn0, decide_eq_false hn9]; rfl)
              go_wp2_with fail
              go_ret
              exact ⟨ret_b HV.out.symm, N.out.trans X1.out⟩
          · have hn01 : decide (0 ≤ n) = false := decide_eq_false hn0
            have HV : Hid (R = false) := RR.out.trans (by rw [tokB_1, Ds.out, Dp.out, decide_eq_true HL.out, decide_eq_false hn0]; rfl)
            go_wp2_with fail
            go_ret
            exact ⟨ret_b HV.out.symm, N.out.trans X1.out⟩
        · have l1 : ((l : Int) == 0) = false := by rw [beq_eq_false_iff_ne]; omega
          have HV : Hid (R = false) := RR.out.trans (by rw [tokB_1, Ds.out, Dp.out, decide_eq_false hl]; rfl)
          go_wp2_with fail
          go_ret
          exact ⟨ret_b HV.out.symm, N.out.trans X1.out⟩
  by_cases k2 : k = 2
  · subst k2
    cases bn with
    | false =>
      have HV : Hid (R = false) := RR.out.trans (by rw [tokB_2, Dn.out]; rfl)
      go_wp2_with fail
      go_ret
      exact ⟨ret_b HV.out.symm, N.out.trans X1.out⟩
    | true =>
      cases bp with
      | false =>
        have HV : Hid (R = false) := RR.out.trans (by rw [tokB_2, Dn.out, Dp.out]; rfl)
        go_wp2_with fail
        go_ret
        exact ⟨ret_b HV.out.symm, N.out.trans X1.out⟩
      | true =>
        by_cases hl : l = 0
        · have l1 : ((l : Int) == 0) = true := by rw [beq_iff_eq]; omega
          have HL : Hid (l = 0) := hl
          clear hl
          have HV : Hid (R = true) := RR.out.trans (by rw [tokB_2, Dn.out, Dp.out, decide_eq_true HL.out]; rfl)
          go_wp2_with fail
          go_ret
          exact ⟨ret_b HV.out.symm, N.out.trans X1.out⟩
        · have l1 : ((l : Int) == 0) = false := by rw [beq_eq_false_iff_ne]; omega
          have HV : Hid (R = false) := RR.out.trans (by rw [tokB_2, Dn.out, Dp.out, decide_eq_false hl]; rfl)
          go_wp2_with fail
          go_ret
          exact ⟨ret_b HV.out.symm, N.out.trans X1.out⟩
  by_cases k3 : k = 3
  · subst k3
    cases bn with
    | false =>
      have HV : Hid (R = false) := RR.out.trans (by rw [tokB_3 (by omega), Dn.out]; rfl)
      go_wp2_with fail
      go_ret
      exact ⟨ret_b HV.out.symm, N.out.trans X1.out⟩
    | true =>
      cases bs with
      | false =>
        have HV : Hid (R = false) := RR.out.trans (by rw [tokB_3 (by omega), Dn.out, Ds.out]; rfl)
        go_wp2_with fail
        go_ret
        exact ⟨ret_b HV.out.symm, N.out.trans X1.out⟩
      | true =>
        cases bp with
        | false =>
          have HV : Hid (R = false) := RR.out.trans (by rw [tokB_3 (by omega), Dn.out, Ds.out, Dp.out]; rfl)
          go_wp2_with fail
          go_ret
          exact ⟨ret_b HV.out.symm, N.out.trans X1.out⟩
        | true =>
          by_cases hl : l = 2
          · have l1 : ((l : Int) == 2) = true := by rw [beq_iff_eq]; omega
            have HL : Hid (l = 2) := hl
            clear hl
            have HV : Hid (R = true) := RR.out.trans (by rw [tokB_3 (by omega), Dn.out, Ds.out, Dp.out, decide_eq_true HL.out]; rfl)
            go_wp2_with fail
            go_ret
            exact ⟨ret_b HV.out.symm, N.out.trans X1.out⟩
          · have l1 : ((l : Int) == 2) = false := by rw [beq_eq_false_iff_ne]; omega
            have HV : Hid (R = false) := RR.out.trans (by rw [tokB_3 (by omega), Dn.out, Ds.out, Dp.out, decide_eq_false hl]; rfl)
            go_wp2_with fail
            go_ret
            exact ⟨ret_b HV.out.symm, N.out.trans X1.out⟩
  by_cases k4 : k = 4
  · subst k4
    cases bn with
    | false =>
      have HV : Hid (R = false) := RR.out.trans (by rw [tokB_3 (by omega), Dn.out]; rfl)
      go_wp2_with fail
      go_ret
      exact ⟨ret_b HV.out.symm, N.out.trans X1.out⟩
    | true =>
      cases bs with
      | false =>
        have HV : Hid (R = false) := RR.out.trans (by rw [tokB_3 (by omega), Dn.out, Ds.out]; rfl)
        go_wp2_with fail
        go_ret
        exact ⟨ret_b HV.out.symm, N.out.trans X1.out⟩
      | true =>
        cases bp with
        | false =>
          have HV : Hid (R = false) := RR.out.trans (by rw [tokB_3 (by omega), Dn.out, Ds.out, Dp.out]; rfl)
          go_wp2_with fail
          go_ret
          exact ⟨ret_b HV.out.symm, N.out.trans X1.out⟩
        | true =>
          by_cases hl : l = 2
          · have l1 : ((l : Int) == 2) = true := by rw [beq_iff_eq]; omega
            have HL : Hid (l = 2) := hl
            clear hl
            have HV : Hid (R = true) := RR.out.trans (by rw [tokB_3 (by omega), Dn.out, Ds.out, Dp.out, decide_eq_true HL.out]; rfl)
            go_wp2_with fail
            go_ret
            exact ⟨ret_b HV.out.symm, N.out.trans X1.out⟩
          · have l1 : ((l : Int) == 2) = false := by rw [beq_eq_false_iff_ne]; omega
            have HV : Hid (R = false) := RR.out.trans (by rw [tokB_3 (by omega), Dn.out, Ds.out, Dp.out, decide_eq_false hl]; rfl)
            go_wp2_with fail
            go_ret
            exact ⟨ret_b HV.out.symm, N.out.trans X1.out⟩
  by_cases k5 : k = 5
  · subst k5
    cases bn with
    | false =>
      have HV : Hid (R = false) := RR.out.trans (by rw [tokB_3 (by omega), Dn.out]; rfl)
      go_wp2_with fail
      go_ret
      exact ⟨ret_b HV.out.symm, N.out.trans X1.out⟩
    | true =>
      cases bs with
      | false =>
        have HV : Hid (R = false) := RR.out.trans (by rw [tokB_3 (by omega), Dn.out, Ds.out]; rfl)
        go_wp2_with fail
        go_ret
        exact ⟨ret_b HV.out.symm, N.out.trans X1.out⟩
      | true =>
        cases bp with
        | false =>
          have HV : Hid (R = false) := RR.out.trans (by rw [tokB_3 (by omega), Dn.out, Ds.out, Dp.out]; rfl)
          go_wp2_with fail
          go_ret
          exact ⟨ret_b HV.out.symm, N.out.trans X1.out⟩
        | true =>
          by_cases hl : l = 2
          · have l1 : ((l : Int) == 2) = true := by rw [beq_iff_eq]; omega
            have HL : Hid (l = 2) := hl
            clear hl
            have HV : Hid (R = true) := RR.out.trans (by rw [tokB_3 (by omega), Dn.out, Ds.out, Dp.out, decide_eq_true HL.out]; rfl)
            go_wp2_with fail
            go_ret
            exact ⟨ret_b HV.out.symm, N.out.trans X1.out⟩
          · have l1 : ((l : Int) == 2) = false := by rw [beq_eq_false_iff_ne]; omega
            have HV : Hid (R = false) := RR.out.trans (by rw [tokB_3 (by omega), Dn.out, Ds.out, Dp.out, decide_eq_false hl]; rfl)
            go_wp2_with fail
            go_ret
            exact ⟨ret_b HV.out.symm, N.out.trans X1.out⟩
  by_cases k6 : k = 6
  · subst k6
    cases bn with
    | false =>
      have HV : Hid (R = false) := RR.out.trans (by rw [tokB_3 (by omega), Dn.out]; rfl)
      go_wp2_with fail
      go_ret
      exact ⟨ret_b HV.out.symm, N.out.trans X1.out⟩
    | true =>
      cases bs with
      | false =>
        have HV : Hid (R = false) := RR.out.trans (by rw [tokB_3 (by omega), Dn.out, Ds.out]; rfl)
        go_wp2_with fail
        go_ret
        exact ⟨ret_b HV.out.symm, N.out.trans X1.out⟩
      | true =>
        cases bp with
        | false =>
          have HV : Hid (R = false) := RR.out.trans (by rw [tokB_3 (by omega), Dn.out, Ds.out, Dp.out]; rfl)
          go_wp2_with fail
          go_ret
          exact ⟨ret_b HV.out.symm, N.out.trans X1.out⟩
        | true =>
          by_cases hl : l = 2
          · have l1 : ((l : Int) == 2) = true := by rw [beq_iff_eq]; omega
            have HL : Hid (l = 2) := hl
            clear hl
            have HV : Hid (R = true) := RR.out.trans (by rw [tokB_3 (by omega), Dn.out, Ds.out, Dp.out, decide_eq_true HL.out]; rfl)
            go_wp2_with fail
            go_ret
            exact ⟨ret_b HV.out.symm, N.out.trans X1.out⟩
          · have l1 : ((l : Int) == 2) = false := by rw [beq_eq_false_iff_ne]; omega
            have HV : Hid (R = false) := RR.out.trans (by rw [tokB_3 (by omega), Dn.out, Ds.out, Dp.out, decide_eq_false hl]; rfl)
            go_wp2_with fail
            go_ret
            exact ⟨ret_b HV.out.symm, N.out.trans X1.out⟩
  by_cases k7 : k = 7
  · subst k7
    cases bn with
    | false =>
      have HV : Hid (R = false) := RR.out.trans (by rw [tokB_7, Dn.out]; rfl)
      go_wp2_with fail
      go_ret
      exact ⟨ret_b HV.out.symm, N.out.trans X1.out⟩
    | true =>
      cases bs with
      | false =>
        have HV : Hid (R = false) := RR.out.trans (by rw [tokB_7, Dn.out, Ds.out]; rfl)
        go_wp2_with fail
        go_ret
        exact ⟨ret_b HV.out.symm, N.out.trans X1.out⟩
      | true =>
        go_wp2_with fail
        refine (PO.out _ (N.out.trans X1.out)).mono ?_
        rintro e w2 ⟨rfl, hb2⟩
        clear c0 c1 c2 c3 c4
        obtain ⟨c0, c1, c2, c3, c4⟩ := C.out w2 (X1.out.trans hb2)
        cases bq with
        | false =>
          have HV : Hid (R = false) := RR.out.trans (by rw [tokB_7, Dn.out, Ds.out, Dq.out]; rfl)
          go_wp2_with fail
          go_ret
          exact ⟨ret_b HV.out.symm, N.out.trans (X1.out.trans hb2)⟩
        | true =>
          by_cases hl : l = 1
          · have l1 : ((l : Int) == 1) = true := by rw [beq_iff_eq]; omega
            have HL : Hid (l = 1) := hl
            clear hl
            have HV : Hid (R = true) := RR.out.trans (by rw [tokB_7, Dn.out, Ds.out, Dq.out, decide_eq_true HL.out]; rfl)
            go_wp2_with fail
            go_ret
            exact ⟨ret_b HV.out.symm, N.out.trans (X1.out.trans hb2)⟩
          · have l1 : ((l : Int) == 1) = false := by rw [beq_eq_false_iff_ne]; omega
            have HV : Hid (R = false) := RR.out.trans (by rw [tokB_7, Dn.out, Ds.out, Dq.out, decide_eq_false hl]; rfl)
            go_wp2_with fail
            go_ret
            exact ⟨ret_b HV.out.symm, N.out.trans (X1.out.trans hb2)⟩
  by_cases k8 : k = 8
  · subst k8
    cases bn with
    | false =>
      have HV : Hid (R = false) := RR.out.trans (by rw [tokB_8, Dn.out]; rfl)
      go_wp2_with fail
      go_ret
      exact ⟨ret_b HV.out.symm, N.out.trans X1.out⟩
    | true =>
      cases bs with
      | false =>
        have HV : Hid (R = false) := RR.out.trans (by rw [tokB_8, Dn.out, Ds.out]; rfl)
        go_wp2_with fail
        go_ret
        exact ⟨ret_b HV.out.symm, N.out.trans X1.out⟩
      | true =>
        go_wp2_with fail
        refine (PO.out _ (N.out.trans X1.out)).mono ?_
        rintro e w2 ⟨rfl, hb2⟩
        clear c0 c1 c2 c3 c4
        obtain ⟨c0, c1, c2, c3, c4⟩ := C.out w2 (X1.out.trans hb2)
        cases bq with
        | false =>
          have HV : Hid (R = false) := RR.out.trans (by rw [tokB_8, Dn.out, Ds.out, Dq.out]; rfl)
          go_wp2_with fail
          go_ret
          exact ⟨ret_b HV.out.symm, N.out.trans (X1.out.trans hb2)⟩
        | true =>
          by_cases hl : l = 2
          · have l1 : ((l : Int) == 2) = true := by rw [beq_iff_eq]; omega
            have HL : Hid (l = 2) := hl
            clear hl
            have HV : Hid (R = true) := RR.out.trans (by rw [tokB_8, Dn.out, Ds.out, Dq.out, decide_eq_true HL.out]; rfl)
            go_wp2_with fail
            go_ret
            exact ⟨ret_b HV.out.symm, N.out.trans (X1.out.trans hb2)⟩
          · have l1 : ((l : Int) == 2) = false := by rw [beq_eq_false_iff_ne]; omega
            have HV : Hid (R = false) := RR.out.trans (by rw [tokB_8, Dn.out, Ds.out, Dq.out, decide_eq_false hl]; rfl)
            go_wp2_with fail
            go_ret
            exact ⟨ret_b HV.out.symm, N.out.trans (X1.out.trans hb2)⟩
  have q1 : (k == 1) = false := by rw [beq_eq_false_iff_ne]; exact k1
  have q2 : (k == 2) = false := by rw [beq_eq_false_iff_ne]; exact k2
  have q3 : (k == 3) = false := by rw [beq_eq_false_iff_ne]; exact k3
  have q4 : (k == 4) = false := by rw [beq_eq_false_iff_ne]; exact k4
  have q5 : (k == 5) = false := by rw [beq_eq_false_iff_ne]; exact k5
  have q6 : (k == 6) = false := by rw [beq_eq_false_iff_ne]; exact k6
  have q7 : (k == 7) = false := by rw [beq_eq_false_iff_ne]; exact k7
  have q8 : (k == 8) = false := by rw [beq_eq_false_iff_ne]; exact k8
  have HV : Hid (R = false) := RR.out.trans (tokB_o (by omega))
  go_wp2_with fail
  go_ret
  exact ⟨ret_b HV.out.symm, N.out.trans X1.out⟩

end Go.Proofs.YtldbmlojgakieaaDoor

namespace Go.Proofs.YtldbmlojgakieaaDoor

open Go.RowKit Go.Deep Go.Maps Go.WideMaps

attribute [local go_sem ↓] Go.wp_at_zero Go.wp_at_succ

/-- How often a name is among names. -/
def cntN (ns : List ByteArray) (s : ByteArray) : Nat := (ns.filter fun t => t.toList == s.toList).length
theorem cntN_snoc (ns : List ByteArray) (t s : ByteArray) : cntN (ns ++ [t]) s = cntN ns s + (if (t.toList == s.toList) = true then 1 else 0) := by
  simp only [cntN, List.filter_append, List.length_append, List.filter_cons, List.filter_nil]
  by_cases h : (t.toList == s.toList) = true
  · simp [h]
  · simp [h]
theorem cntN_le (ns : List ByteArray) (s : ByteArray) : cntN ns s ≤ ns.length := List.length_filter_le _ _
theorem cntN_has (ns : List ByteArray) (s : ByteArray) : hasB ns s = decide (cntN ns s ≠ 0) := by
  cases h : hasB ns s with
  | true =>
    simp only [hasB, List.any_eq_true] at h
    obtain ⟨t, ht, he⟩ := h
    symm
    rw [decide_eq_true_eq]
    intro h0
    have := List.length_eq_zero_iff.mp h0
    have hm : t ∈ ns.filter (fun t => t.toList == s.toList) := List.mem_filter.2 ⟨ht, he⟩
    rw [this] at hm; cases hm
  | false =>
    simp only [hasB, List.any_eq_false] at h
    symm
    rw [decide_eq_false_iff_not]
    intro h0
    apply h0
    simp only [cntN]
    rw [List.length_eq_zero_iff, List.filter_eq_nil_iff]
    intro t ht
    simpa using h t ht
theorem cntN_same {ns : List ByteArray} {s t : ByteArray} (h : (s.toList == t.toList) = true) : cntN ns s = cntN ns t := by
  have : s.toList = t.toList := by simpa using h
  simp only [cntN, this]

theorem Tryd.keyed : Keyed Tryd.prog 9 := string_keyed Tryd.underlying9
theorem Tryd.zeroInt (w : World) : (zeroValue 3).run Tryd.prog w = .ok (.int .i64 0) w := by kernel_rfl

/-- A block is a map that holds of each name how often it is among names. -/
def CM (w : World) (mb n : Nat) (ns : List ByteArray) : Prop := ∃ D : DataW Unit, w.ownsMap Tryd.prog 9 (plainElem Tryd.prog 3) mb n D ∧ ∀ s : ByteArray, D.atKey (.string s.data.toList) (.lit (.int .i64 0)) = .lit (.int .i64 (cntN ns s : Int))
theorem CM_made (w : World) : CM (w.alloc (.map #[] 0)) w.heap.size 0 [] := ⟨_, World.ownsMap_made w _ _ _, fun _ => rfl⟩
theorem CM.blk {w w' : World} {mb n : Nat} {ns : List ByteArray} (h : CM w mb n ns) (hb : w'.heap[mb]? = w.heap[mb]?) : CM w' mb n ns := by
  obtain ⟨D, ⟨es, cl, h1, h2⟩, h3⟩ := h
  exact ⟨D, ⟨es, cl, hb.trans h1, h2⟩, h3⟩
theorem CM.lt {w : World} {mb n : Nat} {ns : List ByteArray} (h : CM w mb n ns) : mb < w.heap.size := by
  obtain ⟨D, h1, _⟩ := h
  exact h1.lt
theorem CM.ex {w w' : World} {mb n : Nat} {ns : List ByteArray} (h : CM w mb n ns) (hx : Ex w w') : CM w' mb n ns := h.blk (hx.block mb h.lt)
theorem CM.drew {w : World} {mb n : Nat} {ns : List ByteArray} (h : CM w mb n ns) : CM w.drew mb n ns := h.blk rfl
theorem CM.ne {w : World} {mb n : Nat} {ns : List ByteArray} (h : CM w mb n ns) {p : Addr} {v : Value} (hc : w.cell? p = some v) : p.block ≠ mb := by
  obtain ⟨D, ⟨es, cl, h1, h2⟩, h3⟩ := h
  intro e
  simp [World.cell?, e, h1] at hc
theorem key_string {s : ByteArray} (hs : s.size ≤ 9223372036854775807) : keyOf Tryd.prog 9 (.string s) = some (.string s.data.toList) := keyOf_string_mk Tryd.underlying9 (by unfold maxLen; omega)
/-- A name asked for. -/
theorem CM.look {w : World} {mb n : Nat} {ns : List ByteArray} (h : CM w mb n ns) {s : ByteArray} (hs : s.size ≤ 9223372036854775807) : (Instr.lookup 67 (.map (some mb)) (.string s) false).run Tryd.prog w = .ok (.int .i64 (cntN ns s : Int)) w := by
  obtain ⟨D, h1, h2⟩ := h
  obtain ⟨c, hr, hc, _⟩ := h1.lookup_int Tryd.keyed Tryd.underlying67 Tryd.underlying3 (Tryd.zeroInt _) (key_string hs)
  have e : DataW.lit (H := Unit) (.int .i64 c) = .lit (.int .i64 (cntN ns s : Int)) := hc.symm.trans (h2 s)
  simp only [DataW.lit.injEq, Lit.int.injEq, true_and] at e
  rw [e] at hr; exact hr
theorem grown_fr {w w' : World} {b : Nat} (h : w.grownBy w' (some b)) : Fr b w w' := ⟨h.os, h.tape, h.output, h.size, fun k hk hn => h.block k hk (fun e => hn (Option.some.inj e))⟩
theorem byte_key {s t : ByteArray} : s.data.toList = t.data.toList ↔ (s.toList == t.toList) = true := by
  rw [beq_iff_eq, Go.ByteArray.toList_eq, Go.ByteArray.toList_eq]
theorem CM.put {w' : World} {mb n : Nat} {ns : List ByteArray} {s : ByteArray} {D : DataW Unit} (hD : IsMap D) (h2 : ∀ s : ByteArray, D.atKey (.string s.data.toList) (.lit (.int .i64 0)) = .lit (.int .i64 (cntN ns s : Int))) (h : w'.ownsMap Tryd.prog 9 (plainElem Tryd.prog 3) mb n (D.put (.string s.data.toList) (.lit (.int .i64 ((cntN ns s : Int) + 1))))) : CM w' mb n (ns ++ [s]) := by
  refine ⟨_, h, fun t => ?_⟩
  by_cases he : (s.toList == t.toList) = true
  · have e := byte_key.2 he
    rw [← e, atKey_put_same hD (k := .string s.data.toList) (by simp [WideAt.IsKeyLit]), cntN_snoc, if_pos he, ← cntN_same he]
    simp
  · rw [atKey_put_other (fun e => by injection e with e; exact he (byte_key.1 e.symm)), h2 t, cntN_snoc, if_neg he]
    simp

/-- A name counted once more: an operation of an ordered list. -/
theorem wpList_count {w : World} {ops : Array Oper} {rest : List Oper} {o : Oper} {a : Act} {Q : Exit → Act → World → Prop} (hg : o.guard = none) (m x v : Operand) (hop : o.op = Op.mapUpdate 67 m x v)
    (mb n : Nat) (ns : List ByteArray) (s : ByteArray) (hs : s.size ≤ 9223372036854775807) (hm : a.eval m = .map (some mb)) (hC : CM w mb n ns) (hn : n < 1000000) (hns : ns.length < 1000000) (hx : a.eval x = .string s) (hv : a.eval v = .int .i64 ((cntN ns s : Int) + 1))
    (hK : ∀ w', CM w' mb (n + 1) (ns ++ [s]) → Fr mb w w' → wpList Tryd.prog ops Q rest (a.put o.dst undef) w') : wpList Tryd.prog ops Q (o :: rest) a w := by
  obtain ⟨D, h1, h2⟩ := hC
  have hc := cntN_le ns s
  refine wpList_mapUpdate_own w hg m x v 67 hop 9 3 Tryd.keyed Tryd.underlying67 _ mb n D hm h1 (by unfold maxLen; omega) _ _ _ hx hv (key_string hs) _ [] (plainElem_int Tryd.underlying3 (WalkArith.wf_i64 (by omega))) ?_
  intro w' hown hgr
  exact hK w' (CM.put h1.isMap h2 hown) (grown_fr hgr)

end Go.Proofs.YtldbmlojgakieaaDoor

namespace Go.Proofs.YtldbmlojgakieaaDoor

open Go.RowKit Go.Deep

attribute [local go_sem ↓] Go.wp_at_zero Go.wp_at_succ

/-- What a count answers: what is left, or -1; and what it tells, if something is left: so much has been counted, at least. -/
def SzP (n : Nat) (S : Prop) (l : Int) (w : World) (e : Ending) (w' : World) : Prop := ∃ x : Int, e = .returned (.int .i64 x) ∧ -1 ≤ x ∧ x ≤ l ∧ (0 ≤ x → S ∧ x + n ≤ l) ∧ Ex w w'

/-- The sum of so many. -/
def sumN (g : Nat → Nat) : Nat → Nat
  | 0 => 0
  | k + 1 => sumN g k + g k
theorem sumN_shift (g : Nat → Nat) : ∀ n, sumN g (n + 1) = g 0 + sumN (fun i => g (i + 1)) n
  | 0 => by simp [sumN]
  | n + 1 => by rw [sumN, sumN_shift g n, sumN]; omega
theorem sumN_eq {g g' : Nat → Nat} : ∀ n, (∀ i, i < n → g i = g' i) → sumN g n = sumN g' n
  | 0, _ => rfl
  | n + 1, h => by rw [sumN, sumN, sumN_eq n fun i hi => h i (by omega), h n (by omega)]

/-- How much texts count. -/
def xW (p : List ByteArray) : Nat := p.length + sumN (fun i => (p.getD i ⟨#[]⟩).size) p.length
/-- How much terms count. -/
def tW : TM → Nat
  | .nil => 0
  | .node _ _ (_, _, s, p) k r => 1 + (s.size + p.length + tW k) + tW r
def tWk (f : TM) (j : Nat) : Nat := (tname f j).size + (tpath f j).length + tW (tkid f j)
theorem tW_sum : ∀ f : TM, tW f = tlen f + sumN (tWk f) (tlen f)
  | .nil => rfl
  | .node a b (k, n, s, p) f r => by
    have h : sumN (fun i => tWk (.node a b (k, n, s, p) f r) (i + 1)) (tlen r) = sumN (tWk r) (tlen r) := sumN_eq _ fun i _ => rfl
    rw [tlen, sumN_shift, h, tW, tW_sum r]
    show _ = _ + ((s.size + p.length + tW f) + _)
    omega

/-- All texts are of a length that is one. -/
def XLm (p : List ByteArray) : Prop := ∀ i, i < p.length → (p.getD i ⟨#[]⟩).size ≤ 9223372036854775807

/-- All lists and names are of a length that is one. -/
def TLm : TM → Prop
  | .nil => True
  | .node _ _ (_, _, s, p) k r => s.size ≤ 9223372036854775807 ∧ p.length ≤ 9223372036854775807 ∧ tlen k ≤ 9223372036854775807 ∧ TLm k ∧ TLm r
theorem TLm_at : ∀ {f : TM}, TLm f → ∀ i, i < tlen f → (tname f i).size ≤ 9223372036854775807 ∧ (tpath f i).length ≤ 9223372036854775807 ∧ tlen (tkid f i) ≤ 9223372036854775807 ∧ TLm (tkid f i)
  | .nil, _, i, h => by simp [tlen] at h
  | .node _ _ (_, _, _, _) k r, hs, 0, _ => ⟨hs.1, hs.2.1, hs.2.2.1, hs.2.2.2.1⟩
  | .node _ _ (_, _, _, _) k r, hs, i + 1, h => TLm_at hs.2.2.2.2 i (by simp only [tlen] at h; omega)

/-- Small, as far as it goes. -/
def TSmTo (f : TM) (k : Nat) : Prop := ∀ j, j < k → (tpath f j).length ≤ 1048576 ∧ tlen (tkid f j) ≤ 1048576 ∧ TSm (tkid f j)
theorem TSm_of : ∀ {f : TM}, TSmTo f (tlen f) → TSm f
  | .nil, _ => trivial
  | .node _ _ (_, _, _, p) k r, h => by
    have h0 := h 0 (by simp [tlen])
    simp only [tpath, tkid] at h0
    exact ⟨by omega, by omega, h0.2.2, TSm_of fun j hj => h (j + 1) (by simp only [tlen]; omega)⟩

end Go.Proofs.YtldbmlojgakieaaDoor
