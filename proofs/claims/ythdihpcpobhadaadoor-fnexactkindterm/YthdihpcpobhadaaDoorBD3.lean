/- Lists put behind what is owned; bindings and bodies that are ok, without the program. -/
import Derived.Test.YthdihpcpobhadaaDoorBD2

import Derived.Laws.AppendOwn

import Derived.Laws.OwnMore

namespace Go.Proofs.YthdihpcpobhadaaDoor

open Go.RowKit Go.Deep

theorem grown_same (w : World) (o : Option Nat) : w.grownBy w o := ⟨rfl, rfl, rfl, Nat.le_refl _, fun _ _ _ => rfl⟩
theorem row_own {w : World} {base n : Nat} {e : TypeId} {size : Nat} {v : Value} {xs : List Value} (h : w.ownsRow base e size v n xs) : ∀ k, v.ownBlock = some k → base ≤ k := by
  obtain ⟨_, ⟨rfl, _⟩ | ⟨g, cap, cur, rfl, hb, _⟩⟩ := h
  · intro k hk; cases hk
  · intro k hk; cases hk; exact hb
theorem ex_grow {a b c : World} {v : Value} (h : Ex a b) (hg : b.grownBy c v.ownBlock) (hr : ∀ k, v.ownBlock = some k → a.heap.size ≤ k) : Ex a c :=
  ⟨hg.os.trans h.os, hg.tape.trans h.tape, hg.output.trans h.output, Nat.le_trans h.size hg.size, fun k hk => (hg.block k (Nat.lt_of_lt_of_le hk h.size) (fun e => by have := hr k e.symm; omega)).trans (h.block k hk)⟩

/-- To put nothing behind what is owned changes nothing. -/
theorem run_append_zero {P : Program} {w : World} (base : Nat) (t ty e : TypeId) (i : TypeInfo) (size : Nat) (ht : P.underlying t = some (.slice e)) (hi : P.info? e = some i)
    (v : Value) (n : Nat) (xs : List Value) (hown : w.ownsRow base e size v n xs) (a : Option Addr) (c : Nat) :
    (Builtin.append_ #[t, t] ty #[v, .slice a 0 c]).run P w = .ok v w := by
  rcases hown.2 with ⟨rfl, rfl⟩ | ⟨g, cap, cur, rfl, _, _, hnc, _⟩
  · cases a with
    | none => simp [Builtin.append_, run_underlying ht, sizeOf, typeInfo, hi, Builtin.lenOf, Builtin.firstCells]
    | some a => simp [Builtin.append_, run_underlying ht, sizeOf, typeInfo, hi, Builtin.lenOf, Builtin.firstCells, loadCells, loadCellsFrom]
  · cases a with
    | none => simp [Builtin.append_, run_underlying ht, sizeOf, typeInfo, hi, Builtin.lenOf, Builtin.firstCells, hnc, storeCells]
    | some a => simp [Builtin.append_, run_underlying ht, sizeOf, typeInfo, hi, Builtin.lenOf, Builtin.firstCells, hnc, storeCells, loadCells, loadCellsFrom]

/-- Values that lie in memory, a cell each. -/
def LS (w : World) (news : List Value) (a : Option Addr) : Prop := news.length = 0 ∨ ∃ b o, a = some ⟨b, o, none⟩ ∧ ∀ j u, news[j]? = some u → w.cell? ⟨b, o + j, none⟩ = some u

/-- Values, in memory or none, put behind what is owned: an operation of an ordered list. -/
theorem wpList_append_vals {P : Program} {w : World} {ops : Array Oper} {rest : List Oper} {o : Oper} {a : Act} {Q : Exit → Act → World → Prop} (hgd : o.guard = none) (s x : Operand) (t : TypeId)
    (ho : o.op = .call { callee := .builtin .append, args := #[s, x], argTypes := #[t, t] })
    (w0 : World) (hE : Ex w0 w) (e : TypeId) (i : TypeInfo) (z : Value) (bytes : Nat) (ht : P.underlying t = some (.slice e)) (hi : P.info? e = some i) (hz : i.zero = some z) (hsize : i.size = 1) (hby : i.bytes = bytes) (hzs : z.cells.size = 1) (hb64 : bytes ≤ 64)
    (v : Value) (n : Nat) (xs : List Value) (hs : a.eval s = v) (hown : w.ownsRow w0.heap.size e 1 v n xs)
    (pa : Option Addr) (pc m : Nat) (news : List Value) (hx : a.eval x = .slice pa m pc) (hm : news.length = m) (hL : LS w news pa) (h1 : ∀ u ∈ news, u.oneCell' = true)
    (h63 : n + m ≤ 1000000)
    (h : ∀ v' w', w'.ownsRow w0.heap.size e 1 v' (n + m) (xs ++ news) → w.grownBy w' v.ownBlock → Ex w0 w' → wpList P ops Q rest (a.put o.dst v') w') :
    wpList P ops Q (o :: rest) a w := by
  by_cases h0 : m = 0
  · subst h0
    have hn : news = [] := List.length_eq_zero_iff.mp hm
    subst hn
    refine wpList_plain hgd fun K hK => ?_
    have hrun := run_append_zero (P := P) (w := w) w0.heap.size t o.type e i 1 ht hi v n xs hown pa pc
    unfold Oper.wp
    simp [execOp, ho, resolve, invoke, builtin, hs, hx, hrun, Result.andThen]
    exact hK _ _ (h v w (by simpa using hown) (grown_same _ _) hE)
  · rcases hL with hL | ⟨b, of, rfl, hc⟩
    · omega
    · refine wpList_append_own w hgd s x t ho w0.heap.size e i z 1 bytes ht hi hz hsize hby hzs (by omega) v n xs hs hown ⟨b, of, none⟩ m pc news hx (by omega) ?_ h1 (by unfold maxLen; omega) (by
        have : (n + m) * bytes ≤ 1000000 * 64 := Nat.mul_le_mul h63 hb64
        omega) hE.size fun v' w' h2 h3 _ => h v' w' h2 h3 (ex_grow hE h3 (row_own hown))
      intro j u hu
      rw [Go.WideShapes.add_plain]
      exact hc j u hu

theorem LS_texts {w : World} {p : List ByteArray} {a : Option Addr} (h : XA w 0 p a) : LS w (p.map Value.string) a := by
  rcases h with h | ⟨b, o, e, _, hc⟩
  · exact Or.inl (by simpa using h)
  · refine Or.inr ⟨b, o, e, fun j u hu => ?_⟩
    rw [List.getElem?_map] at hu
    cases hj : p[j]? with
    | none => rw [hj] at hu; simp at hu
    | some t =>
      have hjl : j < p.length := by
        rcases Nat.lt_or_ge j p.length with h | h
        · exact h
        · rw [List.getElem?_eq_none h] at hj; cases hj
      rw [hc j hjl]
      rw [hj] at hu
      simp only [List.getD, hj, Option.getD_some]
      exact hu
theorem one_texts {p : List ByteArray} : ∀ u ∈ p.map Value.string, u.oneCell' = true := fun u hu => by obtain ⟨_, _, rfl⟩ := List.mem_map.mp hu; rfl

/-- Texts that are owned, as texts in memory. -/
theorem own_texts {w : World} {base n : Nat} {e : TypeId} {v : Value} {p : List ByteArray} (h : w.ownsRow base e 1 v n (p.map Value.string)) (hn : n = p.length) : ∃ a c, v = .slice a p.length c ∧ XA w base p a := by
  subst hn
  obtain ⟨_, ⟨rfl, h0⟩ | ⟨g, cap, cur, rfl, hb, hg, hnc, _, _, ht⟩⟩ := id h
  · refine ⟨none, 0, ?_, Or.inl h0⟩
    rw [h0]
  · refine ⟨_, _, rfl, Or.inr ⟨g, 0, rfl, hb, fun i hi => ?_⟩⟩
    rw [World.ownsRow.cellAt h (0 + i) (by omega)]
    simp [List.getD, hi]

/-- Names are words, none twice. -/
def uniqB (ns : List ByteArray) : Bool := (List.range ns.length).all fun i => wordB (ns.getD i ⟨#[]⟩) && !hasB (ns.take i) (ns.getD i ⟨#[]⟩)
def uniqAt (ns : List ByteArray) (i : Nat) : Bool := wordB (ns.getD i ⟨#[]⟩) && !hasB (ns.take i) (ns.getD i ⟨#[]⟩)
theorem uniqB_no {ns : List ByteArray} {i : Nat} (h : i < ns.length) (hb : uniqAt ns i = false) : uniqB ns = false := by
  cases hn : uniqB ns with
  | false => rfl
  | true =>
    simp only [uniqB, List.all_eq_true, List.mem_range] at hn
    have := hn i h
    rw [show (wordB (ns.getD i ⟨#[]⟩) && !hasB (ns.take i) (ns.getD i ⟨#[]⟩)) = false from hb] at this; cases this
theorem uniqB_yes {ns : List ByteArray} (h : ∀ i, i < ns.length → uniqAt ns i = true) : uniqB ns = true := by
  simp only [uniqB, List.all_eq_true, List.mem_range]
  exact h

/-- A binding is ok. -/
def kindB (fs : List PM) (rec : List ByteArray → BD → TM → Bool) (ns : List ByteArray) (k : Int) (nm : List ByteArray) (fn : ByteArray) (ts : TM) (tb : BD) (tz : TM) (eb : BD) (ez : TM) : Bool :=
  if k = 1 then decide (blen tb + tlen tz + blen eb + tlen ez = 0) && (decide (fn.size = 0) && (decide (nm.length = 1) && decide (tlen ts = 1)))
  else if k = 2 then decide (blen tb + tlen tz + blen eb + tlen ez = 0) && ((arityR fs fn).2.2 && (decide ((arityR fs fn).1 = tlen ts) && decide ((arityR fs fn).2.1 = nm.length)))
  else if k = 3 then decide (fn.size = 0) && (decide (tlen ts = 1) && (rec ns tb tz && (rec ns eb ez && (decide (tlen tz = nm.length) && decide (tlen ez = nm.length)))))
  else false
def bindB (fs : List PM) (rec : List ByteArray → BD → TM → Bool) (ns : List ByteArray) (k : Int) (nm : List ByteArray) (fn : ByteArray) (ts : TM) (tb : BD) (tz : TM) (eb : BD) (ez : TM) : Bool :=
  (decide (nm.length ≤ 60) && termsB ns ts) && (uniqB nm && kindB fs rec ns k nm fn ts tb tz eb ez)

/-- All names behind so many bindings. -/
def nsAt (ns : List ByteArray) (b : BD) : Nat → List ByteArray
  | 0 => ns
  | i + 1 => nsAt ns b i ++ bnames b i
def bindAt (fs : List PM) (rec : List ByteArray → BD → TM → Bool) (ns : List ByteArray) (b : BD) (i : Nat) : Bool := bindB fs rec (nsAt ns b i) (bkind b i) (bnames b i) (bfn b i) (bterms b i) (bthen b i) (btsay b i) (belse b i) (besay b i)

/-- A body is ok, at most so deep. -/
def bodyB (fs : List PM) : Nat → List ByteArray → BD → TM → Bool
  | 0, _, _, _ => false
  | d + 1, ns, b, z => decide (blen b ≤ 400) && ((List.range (blen b)).all (fun i => bindAt fs (bodyB fs d) ns b i) && termsB (nsAt ns b (blen b)) z)

theorem bodyB_len {fs : List PM} {d : Nat} {ns : List ByteArray} {b : BD} {z : TM} (h : 400 < blen b) : bodyB fs (d + 1) ns b z = false := by simp [bodyB, show ¬ blen b ≤ 400 by omega]
theorem bodyB_no {fs : List PM} {d i : Nat} {ns : List ByteArray} {b : BD} {z : TM} (h : i < blen b) (hb : bindAt fs (bodyB fs d) ns b i = false) : bodyB fs (d + 1) ns b z = false := by
  have : (List.range (blen b)).all (fun i => bindAt fs (bodyB fs d) ns b i) = false := by
    rw [List.all_eq_false]
    exact ⟨i, List.mem_range.2 h, by rw [hb]; simp⟩
  simp [bodyB, this]
theorem bodyB_end {fs : List PM} {d : Nat} {ns : List ByteArray} {b : BD} {z : TM} (h1 : blen b ≤ 400) (h : ∀ i, i < blen b → bindAt fs (bodyB fs d) ns b i = true) : bodyB fs (d + 1) ns b z = termsB (nsAt ns b (blen b)) z := by
  have : (List.range (blen b)).all (fun i => bindAt fs (bodyB fs d) ns b i) = true := by
    rw [List.all_eq_true]
    intro i hi
    exact h i (List.mem_range.1 hi)
  simp only [bodyB, this, h1, decide_true, Bool.true_and]
theorem bind_names {fs : List PM} {d i : Nat} {ns : List ByteArray} {b : BD} (h : bindAt fs (bodyB fs d) ns b i = true) : (bnames b i).length ≤ 60 := by
  simp only [bindAt, bindB, Bool.and_eq_true, decide_eq_true_eq] at h
  exact h.1.1

/-- All lists are of a length that can be counted. -/
def BSm : BD → Prop
  | .nil => True
  | .node _ _ _ _ .nil => True
  | .node _ _ (_, ns, _, ts, tz, ez) tb (.node _ _ _ eb r) => ns.length ≤ 1000000000 ∧ tlen ts ≤ 1000000000 ∧ TSm ts ∧ blen tb ≤ 1000000000 ∧ BSm tb ∧ tlen tz ≤ 1000000000 ∧ TSm tz ∧ blen eb ≤ 1000000000 ∧ BSm eb ∧ tlen ez ≤ 1000000000 ∧ TSm ez ∧ BSm r
theorem BSm_at : ∀ {f : BD}, BSm f → ∀ i, i < blen f → (bnames f i).length ≤ 1000000000 ∧ tlen (bterms f i) ≤ 1000000000 ∧ blen (bthen f i) ≤ 1000000000 ∧ BSm (bthen f i) ∧ tlen (btsay f i) ≤ 1000000000 ∧ blen (belse f i) ≤ 1000000000 ∧ BSm (belse f i) ∧ tlen (besay f i) ≤ 1000000000
  | .nil, _, i, h => by simp [blen] at h
  | .node _ _ _ _ .nil, _, i, h => by simp [blen] at h
  | .node _ _ (_, _, _, _, _, _) _ (.node _ _ _ _ r), hs, 0, _ => ⟨hs.1, hs.2.1, hs.2.2.2.1, hs.2.2.2.2.1, hs.2.2.2.2.2.1, hs.2.2.2.2.2.2.2.1, hs.2.2.2.2.2.2.2.2.1, hs.2.2.2.2.2.2.2.2.2.1⟩
  | .node _ _ (_, _, _, _, _, _) _ (.node _ _ _ _ r), hs, i + 1, h => BSm_at hs.2.2.2.2.2.2.2.2.2.2.2 i (by simp only [blen] at h; omega)

end Go.Proofs.YthdihpcpobhadaaDoor
