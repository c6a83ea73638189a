/- Walks: terms of a list, and how much a function is given and says. Lists put behind what is owned; bindings and bodies that are ok, without the program. Walks: bindings, bodies and functions counted by the exact laws. -/
import Derived.Test.YtldbmlojgakieaaGreatDoorGTM3
import Derived.Laws.AppendOwn
import Derived.Laws.OwnMore
namespace Go.Proofs.YtldbmlojgakieaaGreatDoor

open Go.RowKit Go.Deep

attribute [local go_sem ↓] Go.wp_at_zero Go.wp_at_succ

/-- Terms are ok by names. -/
def termsB (ns : List ByteArray) (f : TM) : Bool := decide (tlen f ≤ 60) && (List.range (tlen f)).all fun i => kidB ns 8 f i
theorem termsB_len {ns : List ByteArray} {f : TM} (h : 60 < tlen f) : termsB ns f = false := by simp [termsB, show ¬ tlen f ≤ 60 by omega]
theorem termsB_no {ns : List ByteArray} {f : TM} {i : Nat} (h : i < tlen f) (hb : kidB ns 8 f i = false) : termsB ns f = false := by
  cases hn : termsB ns f with
  | false => rfl
  | true =>
    simp only [termsB, Bool.and_eq_true, List.all_eq_true, List.mem_range] at hn
    rw [hn.2 i h] at hb; cases hb
theorem termsB_yes {ns : List ByteArray} {f : TM} (h1 : tlen f ≤ 60) (h : ∀ i, i < tlen f → kidB ns 8 f i = true) : termsB ns f = true := by
  simp only [termsB, Bool.and_eq_true, List.all_eq_true, List.mem_range, decide_eq_true_eq]
  exact ⟨h1, h⟩

set_option maxRecDepth 100000 in
set_option maxHeartbeats 1000000 in
theorem l12Terms_any (ns : List ByteArray) (na : Option Addr) (nc : Nat) (hns : ns.length ≤ 1000000000) (f : TM) (a : Option Addr) (c : Nat) (w : World) (hX : XA w 0 ns na) (hM : MA w 0 f a) :
    Calls Tryz.prog 71 #[.slice na ns.length nc, .slice a (tlen f) c] w fun e w' => e = .returned (.bool (termsB ns f)) ∧ Ex w w' := by
  have X : Hid (∀ w', Ex w w' → XA w' 0 ns na) := fun _ h => XA_below hX h
  have M : Hid (∀ w', Ex w w' → MA w' 0 f a) := fun _ h => MA_below hM h
  clear hX hM
  by_cases h60 : 60 < tlen f
  · have HR : Hid (termsB ns f = false) := termsB_len h60
    have d1 : decide ((60 : Int) < (tlen f : Int)) = true := by simp; omega
    go_enter Tryz.func71, Tryz.ntmps71
    go_wp2_with fail
    go_ret
    exact ⟨ret_b HR.out.symm, Ex.refl _⟩
  have d1 : decide ((60 : Int) < (tlen f : Int)) = false := by simp; omega
  go_enter Tryz.func71, Tryz.ntmps71
  go_wp2_with fail
  go_loopw [5] (fun i wr => ∃ (j : Nat), j ≤ tlen f ∧ i = .int .i64 j ∧ (∀ l, l < j → kidB ns 8 f l = true) ∧ Ex w wr) (fun i _ => tlen f - (intOf i).toNat)
  case atStart => exact ⟨0, by omega, rfl, fun j hj => by omega, Ex.refl _⟩
  case round =>
    obtain ⟨j, hj, rfl, hall, hx⟩ := hrel
    have A : Hid (∀ l, l < j → kidB ns 8 f l = true) := hall
    have E : Hid (Ex w wr) := hx
    clear hall hx
    by_cases hlt : j < tlen f
    · obtain ⟨b, o, rfl, _, hbs, hk⟩ := MA_at (M.out wr E.out) (by omega)
      obtain ⟨e0, e1, e2, ⟨pa', pc', e3, hp'⟩, a', c', e4, hm'⟩ := hk j hlt
      have HI : Hid (∀ w', Ex wr w' → Calls Tryz.prog 89 #[.slice na ns.length nc, .agg #[.int .i64 (tkind f j), .int .i64 (tnum f j), .string (tname f j), .slice pa' (tpath f j).length pc', .slice a' (tlen (tkid f j)) c'], .int .i64 8] w' fun e w'' => e = .returned (.bool (kidB ns 8 f j)) ∧ Ex w' w'') :=
        fun w' h => l12Term_any ns na nc hns 8 _ _ _ _ _ _ _ _ _ w' (by omega) (X.out w' (E.out.trans h)) (PA_below (PS_pa.1 hp'.1) h) (MA_below hm' h)
      have U : Hid (kidB ns 8 f j = true → ∀ l, l < j + 1 → kidB ns 8 f l = true) := fun h => upto_succ A.out h
      have V : Hid (kidB ns 8 f j = false → termsB ns f = false) := termsB_no hlt
      clear hk hp' hm'
      go_wp2_with fail
      refine (HI.out _ (Ex.refl _)).mono ?_
      rintro e w1 ⟨rfl, hb1⟩
      cases hkb : kidB ns 8 f j with
      | false =>
        have HR : Hid (termsB ns f = false) := V.out hkb
        go_wp2_with fail
        go_ret
        exact ⟨ret_b HR.out.symm, E.out.trans hb1⟩
      | true =>
        have HU : Hid _ := U.out hkb
        go_wp2_with fail
        go_roundw
        case rel => exact ⟨j + 1, by omega, by go_num, HU.out, E.out.trans hb1⟩
        case measure => simp [intOf]; omega
    · have HR : Hid (termsB ns f = true) := termsB_yes (by omega) fun l hl => A.out l (by omega)
      go_wp2_with fail
      go_ret
      exact ⟨ret_b HR.out.symm, E.out⟩

/-- How much a function is given, and says. -/
def arityR (l : List PM) (s : ByteArray) : Nat × Nat × Bool := match l.find? (fun f => f.name.toList == s.toList) with
  | some f => (f.params.length, tlen f.says, true)
  | none => (0, 0, false)

theorem arity_yes {l : List PM} {s : ByteArray} {m i : Nat} (h : i < l.length) (him : i < m) (hb : ∀ j, j < i → ((l.getD j pm0).name.toList == s.toList) = false) (he : ((l.getD i pm0).name.toList == s.toList) = true) : arityR (l.take m) s = ((l.getD i pm0).params.length, tlen (l.getD i pm0).says, true) := by
  have : (l.take m).find? (fun f => f.name.toList == s.toList) = some (l.getD i pm0) := by
    rw [List.find?_eq_some_iff_getElem]
    refine ⟨he, i, by rw [List.length_take]; omega, by simp [List.getD, h], fun j hj => ?_⟩
    have hjl : j < l.length := by omega
    have := hb j hj
    simp only [List.getD, List.getElem?_eq_getElem hjl, Option.getD_some] at this
    simp only [List.getElem_take, this, Bool.not_false]
  simp only [arityR, this]
theorem arity_no {l : List PM} {s : ByteArray} {m : Nat} (hm : m ≤ l.length) (hb : ∀ j, j < m → ((l.getD j pm0).name.toList == s.toList) = false) : arityR (l.take m) s = (0, 0, false) := by
  have : (l.take m).find? (fun f => f.name.toList == s.toList) = none := by
    rw [List.find?_eq_none]
    intro f hf
    obtain ⟨i, hi, rfl⟩ := List.getElem_of_mem hf
    rw [List.length_take] at hi
    have hil : i < l.length := by omega
    have := hb i (by omega)
    simp only [List.getD, List.getElem?_eq_getElem hil, Option.getD_some] at this
    simp only [List.getElem_take, this]
    simp
  simp only [arityR, this]

set_option maxRecDepth 100000 in
set_option maxHeartbeats 1000000 in
theorem l12Arity_any (l : List PM) (a : Option Addr) (c : Nat) (m : Nat) (s : ByteArray) (w : World) (hm : m ≤ l.length) (hl : l.length ≤ 1000000000) (hQ : QA w 0 l a) :
    Calls Tryz.prog 21 #[.slice a l.length c, .int .i64 m, .string s] w fun e w' => e = .returned (.tuple #[.int .i64 (arityR (l.take m) s).1, .int .i64 (arityR (l.take m) s).2.1, .bool (arityR (l.take m) s).2.2]) ∧ Ex w w' := by
  have Q : Hid (∀ w', Ex w w' → QA w' 0 l a) := fun _ h => QA_below hQ h
  clear hQ
  go_enter Tryz.func21, Tryz.ntmps21
  go_wp2_with fail
  go_loopw [9] (fun i wr => ∃ (j : Nat), j ≤ m ∧ i = .int .i64 j ∧ (∀ k, k < j → ((l.getD k pm0).name.toList == s.toList) = false) ∧ Ex w wr) (fun i _ => m - (intOf i).toNat)
  case atStart => exact ⟨0, by omega, rfl, fun j hj => by omega, Ex.refl _⟩
  case round =>
    obtain ⟨j, hj, rfl, hall, hx⟩ := hrel
    have A : Hid (∀ k, k < j → ((l.getD k pm0).name.toList == s.toList) = false) := hall
    have E : Hid (Ex w wr) := hx
    clear hall hx
    by_cases hlt : j < m
    · obtain ⟨b, o, rfl, _, hbs, hk⟩ := QA_at (Q.out wr E.out) (by omega)
      obtain ⟨e0, ⟨a1, c1, e1, hh1⟩, hh2, ⟨a3, c3, e3, hh3⟩⟩ := hk j (by omega)
      clear hh1 hh2 hh3
      have U : Hid (((l.getD j pm0).name.toList == s.toList) = false → ∀ k, k < j + 1 → ((l.getD k pm0).name.toList == s.toList) = false) := fun h => upto_succ A.out h
      have V : Hid (((l.getD j pm0).name.toList == s.toList) = true → arityR (l.take m) s = ((l.getD j pm0).params.length, tlen (l.getD j pm0).says, true)) := fun h => arity_yes (by omega) hlt A.out h
      have hjl : j < l.length := by omega
      obtain ⟨g, hg⟩ : ∃ g, l.getD j pm0 = g := ⟨_, rfl⟩
      rw [hg] at e0 e1 e3 U V
      clear hk hg
      obtain ⟨gn, gp, gb, gs⟩ := g
      cases he : gn.toList == s.toList with
      | true =>
        have HR : Hid _ := V.out he
        have KS : Hid (∀ w', Ex wr w' → (Ex wr w' ∧ w'.cell? ⟨b, o + j * 4, none⟩ = some (.string gn) ∧ w'.cell? ⟨b, o + j * 4 + 1, none⟩ = some (.slice a1 gp.length c1) ∧ w'.cell? ⟨b, o + j * 4 + 3, none⟩ = some (.slice a3 (tlen gs) c3))) := fun w' h => ⟨h, h.at e0, h.at e1, h.at e3⟩
        go_wp2_with fail
        go_region_held3 (fun w' => Ex wr w' ∧ w'.cell? ⟨b, o + j * 4, none⟩ = some (.string gn) ∧ w'.cell? ⟨b, o + j * 4 + 1, none⟩ = some (.slice a1 gp.length c1) ∧ w'.cell? ⟨b, o + j * 4 + 3, none⟩ = some (.slice a3 (tlen gs) c3)) ((refine KS.out _ ?_; first | exact (Ex.refl _).drew | exact Ex.trans (And.left ‹Ex _ _ ∧ _›) ‹Ex _ _› | exact (And.left ‹Ex _ _ ∧ _›))) (fail)
        have hx7 := And.left ‹Ex wr _ ∧ _›
        go_wp2_with fail
        refine bodyPost_ret (v := .tuple #[.int .i64 gp.length, .int .i64 (tlen gs), .bool true]) (by simp [results, Tryz.results21, go_sem]) rfl ?_
        rw [HR.out]
        exact ⟨rfl, E.out.trans hx7⟩
      | false =>
        have HU : Hid _ := U.out he
        go_wp2_with fail
        go_roundw
        case rel => exact ⟨j + 1, by omega, by go_num, HU.out, E.out⟩
        case measure => simp [intOf]; omega
    · have HR : Hid _ := arity_no hm (s := s) fun k hk => A.out k (by omega)
      go_wp2_with fail
      refine bodyPost_ret (v := .tuple #[.int .i64 0, .int .i64 0, .bool false]) (by simp [results, Tryz.results21, go_sem]) rfl ?_
      rw [HR.out]
      exact ⟨rfl, E.out⟩

end Go.Proofs.YtldbmlojgakieaaGreatDoor

namespace Go.Proofs.YtldbmlojgakieaaGreatDoor

open Go.RowKit Go.Deep

theorem grown_same (w : World) (o : Option Nat) : w.grownBy w o := ⟨rfl, rfl, rfl, Nat.le_refl _, fun _ _ _ => rfl⟩
theorem row_own {w : World} {base n : Nat} {e : TypeId} {size : Nat} {v : Value} {xs : List Value} (h : w.ownsRow base e size v n xs) : ∀ k, v.ownBlock = some k → base ≤ k := by
  obtain ⟨_, ⟨rfl, _⟩ | ⟨g, cap, cur, rfl, hb, _⟩⟩ := h
  · intro k hk; cases hk
  · intro k hk; cases hk; exact hb
theorem ex_grow {a b c : World} {v : Value} (h : Ex a b) (hg : b.grownBy c v.ownBlock) (hr : ∀ k, v.ownBlock = some k → a.heap.size ≤ k) : Ex a c :=
  ⟨hg.os.trans h.os, hg.tape.trans h.tape, hg.output.trans h.output, Nat.le_trans h.size hg.size, fun k hk => (hg.block k (Nat.lt_of_lt_of_le hk h.size) (fun e => by have := hr k e.symm; omega)).trans (h.block k hk)⟩

/-- To put nothing behind what is owned changes nothing. -/
theorem run_append_zero {P : Program} {w : World} (base : Nat) (t ty e : TypeId) (i : TypeInfo) (size : Nat) (ht : P.underlying t = some (.slice e)) (hi : P.info? e = some i)
    (v : Value) (n : Nat) (xs : List Value) (hown : w.ownsRow base e size v n xs) (a : Option Addr) (c : Nat) :
    (Builtin.append_ #[t, t] ty #[v, .slice a 0 c]).run P w = .ok v w := by
  rcases hown.2 with ⟨rfl, rfl⟩ | ⟨g, cap, cur, rfl, _, _, hnc, _⟩
  · cases a with
    | none => simp [Builtin.append_, run_underlying ht, sizeOf, typeInfo, hi, Builtin.lenOf, Builtin.firstCells]
    | some a => simp [Builtin.append_, run_underlying ht, sizeOf, typeInfo, hi, Builtin.lenOf, Builtin.firstCells, loadCells, loadCellsFrom]
  · cases a with
    | none => simp [Builtin.append_, run_underlying ht, sizeOf, typeInfo, hi, Builtin.lenOf, Builtin.firstCells, hnc, storeCells]
    | some a => simp [Builtin.append_, run_underlying ht, sizeOf, typeInfo, hi, Builtin.lenOf, Builtin.firstCells, hnc, storeCells, loadCells, loadCellsFrom]

/-- Values that lie in memory, a cell each. -/
def LS (w : World) (news : List Value) (a : Option Addr) : Prop := news.length = 0 ∨ ∃ b o, a = some ⟨b, o, none⟩ ∧ ∀ j u, news[j]? = some u → w.cell? ⟨b, o + j, none⟩ = some u

/-- Values, in memory or none, put behind what is owned: an operation of an ordered list. -/
theorem wpList_append_vals {P : Program} {w : World} {ops : Array Oper} {rest : List Oper} {o : Oper} {a : Act} {Q : Exit → Act → World → Prop} (hgd : o.guard = none) (s x : Operand) (t : TypeId)
    (ho : o.op = .call { callee := .builtin .append, args := #[s, x], argTypes := #[t, t] })
    (w0 : World) (hE : Ex w0 w) (e : TypeId) (i : TypeInfo) (z : Value) (bytes : Nat) (ht : P.underlying t = some (.slice e)) (hi : P.info? e = some i) (hz : i.zero = some z) (hsize : i.size = 1) (hby : i.bytes = bytes) (hzs : z.cells.size = 1) (hb64 : bytes ≤ 64)
    (v : Value) (n : Nat) (xs : List Value) (hs : a.eval s = v) (hown : w.ownsRow w0.heap.size e 1 v n xs)
    (pa : Option Addr) (pc m : Nat) (news : List Value) (hx : a.eval x = .slice pa m pc) (hm : news.length = m) (hL : LS w news pa) (h1 : ∀ u ∈ news, u.oneCell' = true)
    (h63 : n + m ≤ 1000000)
    (h : ∀ v' w', w'.ownsRow w0.heap.size e 1 v' (n + m) (xs ++ news) → w.grownBy w' v.ownBlock → Ex w0 w' → wpList P ops Q rest (a.put o.dst v') w') :
    wpList P ops Q (o :: rest) a w := by
  by_cases h0 : m = 0
  · subst h0
    have hn : news = [] := List.length_eq_zero_iff.mp hm
    subst hn
    refine wpList_plain hgd fun K hK => ?_
    have hrun := run_append_zero (P := P) (w := w) w0.heap.size t o.type e i 1 ht hi v n xs hown pa pc
    unfold Oper.wp
    simp [execOp, ho, resolve, invoke, builtin, hs, hx, hrun, Result.andThen]
    exact hK _ _ (h v w (by simpa using hown) (grown_same _ _) hE)
  · rcases hL with hL | ⟨b, of, rfl, hc⟩
    · omega
    · refine wpList_append_own w hgd s x t ho w0.heap.size e i z 1 bytes ht hi hz hsize hby hzs (by omega) v n xs hs hown ⟨b, of, none⟩ m pc news hx (by omega) ?_ h1 (by unfold maxLen; omega) (by
        have : (n + m) * bytes ≤ 1000000 * 64 := Nat.mul_le_mul h63 hb64
        omega) hE.size fun v' w' h2 h3 _ => h v' w' h2 h3 (ex_grow hE h3 (row_own hown))
      intro j u hu
      rw [Go.WideShapes.add_plain]
      exact hc j u hu

theorem LS_texts {w : World} {p : List ByteArray} {a : Option Addr} (h : XA w 0 p a) : LS w (p.map Value.string) a := by
  rcases h with h | ⟨b, o, e, _, hc⟩
  · exact Or.inl (by simpa using h)
  · refine Or.inr ⟨b, o, e, fun j u hu => ?_⟩
    rw [List.getElem?_map] at hu
    cases hj : p[j]? with
    | none => rw [hj] at hu; simp at hu
    | some t =>
      have hjl : j < p.length := by
        rcases Nat.lt_or_ge j p.length with h | h
        · exact h
        · rw [List.getElem?_eq_none h] at hj; cases hj
      rw [hc j hjl]
      rw [hj] at hu
      simp only [List.getD, hj, Option.getD_some]
      exact hu
theorem one_texts {p : List ByteArray} : ∀ u ∈ p.map Value.string, u.oneCell' = true := fun u hu => by obtain ⟨_, _, rfl⟩ := List.mem_map.mp hu; rfl

/-- Texts that are owned, as texts in memory. -/
theorem own_texts {w : World} {base n : Nat} {e : TypeId} {v : Value} {p : List ByteArray} (h : w.ownsRow base e 1 v n (p.map Value.string)) (hn : n = p.length) : ∃ a c, v = .slice a p.length c ∧ XA w base p a := by
  subst hn
  obtain ⟨_, ⟨rfl, h0⟩ | ⟨g, cap, cur, rfl, hb, hg, hnc, _, _, ht⟩⟩ := id h
  · refine ⟨none, 0, ?_, Or.inl h0⟩
    rw [h0]
  · refine ⟨_, _, rfl, Or.inr ⟨g, 0, rfl, hb, fun i hi => ?_⟩⟩
    rw [World.ownsRow.cellAt h (0 + i) (by omega)]
    simp [List.getD, hi]

/-- Names are words, none twice. -/
def uniqB (ns : List ByteArray) : Bool := (List.range ns.length).all fun i => wordB (ns.getD i ⟨#[]⟩) && !hasB (ns.take i) (ns.getD i ⟨#[]⟩)
def uniqAt (ns : List ByteArray) (i : Nat) : Bool := wordB (ns.getD i ⟨#[]⟩) && !hasB (ns.take i) (ns.getD i ⟨#[]⟩)
theorem uniqB_no {ns : List ByteArray} {i : Nat} (h : i < ns.length) (hb : uniqAt ns i = false) : uniqB ns = false := by
  cases hn : uniqB ns with
  | false => rfl
  | true =>
    simp only [uniqB, List.all_eq_true, List.mem_range] at hn
    have := hn i h
    rw [show (wordB (ns.getD i ⟨#[]⟩) && !hasB (ns.take i) (ns.getD i ⟨#[]⟩)) = false from hb] at this; cases this
theorem uniqB_yes {ns : List ByteArray} (h : ∀ i, i < ns.length → uniqAt ns i = true) : uniqB ns = true := by
  simp only [uniqB, List.all_eq_true, List.mem_range]
  exact h

/-- A binding is ok. -/
def kindB (fs : List PM) (rec : List ByteArray → BD → TM → Bool) (ns : List ByteArray) (k : Int) (nm : List ByteArray) (fn : ByteArray) (ts : TM) (tb : BD) (tz : TM) (eb : BD) (ez : TM) : Bool :=
  if k = 1 then decide (blen tb + tlen tz + blen eb + tlen ez = 0) && (decide (fn.size = 0) && (decide (nm.length = 1) && decide (tlen ts = 1)))
  else if k = 2 then decide (blen tb + tlen tz + blen eb + tlen ez = 0) && ((arityR fs fn).2.2 && (decide ((arityR fs fn).1 = tlen ts) && decide ((arityR fs fn).2.1 = nm.length)))
  else if k = 3 then decide (fn.size = 0) && (decide (tlen ts = 1) && (rec ns tb tz && (rec ns eb ez && (decide (tlen tz = nm.length) && decide (tlen ez = nm.length)))))
  else false
def bindB (fs : List PM) (rec : List ByteArray → BD → TM → Bool) (ns : List ByteArray) (k : Int) (nm : List ByteArray) (fn : ByteArray) (ts : TM) (tb : BD) (tz : TM) (eb : BD) (ez : TM) : Bool :=
  (decide (nm.length ≤ 60) && termsB ns ts) && (uniqB nm && kindB fs rec ns k nm fn ts tb tz eb ez)

/-- All names behind so many bindings. -/
def nsAt (ns : List ByteArray) (b : BD) : Nat → List ByteArray
  | 0 => ns
  | i + 1 => nsAt ns b i ++ bnames b i
def bindAt (fs : List PM) (rec : List ByteArray → BD → TM → Bool) (ns : List ByteArray) (b : BD) (i : Nat) : Bool := bindB fs rec (nsAt ns b i) (bkind b i) (bnames b i) (bfn b i) (bterms b i) (bthen b i) (btsay b i) (belse b i) (besay b i)

/-- A body is ok, at most so deep. -/
def bodyB (fs : List PM) : Nat → List ByteArray → BD → TM → Bool
  | 0, _, _, _ => false
  | d + 1, ns, b, z => decide (blen b ≤ 400) && ((List.range (blen b)).all (fun i => bindAt fs (bodyB fs d) ns b i) && termsB (nsAt ns b (blen b)) z)

theorem bodyB_len {fs : List PM} {d : Nat} {ns : List ByteArray} {b : BD} {z : TM} (h : 400 < blen b) : bodyB fs (d + 1) ns b z = false := by simp [bodyB, show ¬ blen b ≤ 400 by omega]
theorem bodyB_no {fs : List PM} {d i : Nat} {ns : List ByteArray} {b : BD} {z : TM} (h : i < blen b) (hb : bindAt fs (bodyB fs d) ns b i = false) : bodyB fs (d + 1) ns b z = false := by
  have : (List.range (blen b)).all (fun i => bindAt fs (bodyB fs d) ns b i) = false := by
    rw [List.all_eq_false]
    exact ⟨i, List.mem_range.2 h, by rw [hb]; simp⟩
  simp [bodyB, this]
theorem bodyB_end {fs : List PM} {d : Nat} {ns : List ByteArray} {b : BD} {z : TM} (h1 : blen b ≤ 400) (h : ∀ i, i < blen b → bindAt fs (bodyB fs d) ns b i = true) : bodyB fs (d + 1) ns b z = termsB (nsAt ns b (blen b)) z := by
  have : (List.range (blen b)).all (fun i => bindAt fs (bodyB fs d) ns b i) = true := by
    rw [List.all_eq_true]
    intro i hi
    exact h i (List.mem_range.1 hi)
  simp only [bodyB, this, h1, decide_true, Bool.true_and]
theorem bind_names {fs : List PM} {d i : Nat} {ns : List ByteArray} {b : BD} (h : bindAt fs (bodyB fs d) ns b i = true) : (bnames b i).length ≤ 60 := by
  simp only [bindAt, bindB, Bool.and_eq_true, decide_eq_true_eq] at h
  exact h.1.1

/-- All lists are of a length that can be counted. -/
def BSm : BD → Prop
  | .nil => True
  | .node _ _ _ _ .nil => True
  | .node _ _ (_, ns, _, ts, tz, ez) tb (.node _ _ _ eb r) => ns.length ≤ 1000000000 ∧ tlen ts ≤ 1000000000 ∧ TSm ts ∧ blen tb ≤ 1000000000 ∧ BSm tb ∧ tlen tz ≤ 1000000000 ∧ TSm tz ∧ blen eb ≤ 1000000000 ∧ BSm eb ∧ tlen ez ≤ 1000000000 ∧ TSm ez ∧ BSm r
theorem BSm_at : ∀ {f : BD}, BSm f → ∀ i, i < blen f → (bnames f i).length ≤ 1000000000 ∧ tlen (bterms f i) ≤ 1000000000 ∧ blen (bthen f i) ≤ 1000000000 ∧ BSm (bthen f i) ∧ tlen (btsay f i) ≤ 1000000000 ∧ blen (belse f i) ≤ 1000000000 ∧ BSm (belse f i) ∧ tlen (besay f i) ≤ 1000000000
  | .nil, _, i, h => by simp [blen] at h
  | .node _ _ _ _ .nil, _, i, h => by simp [blen] at h
  | .node _ _ (_, _, _, _, _, _) _ (.node _ _ _ _ r), hs, 0, _ => ⟨hs.1, hs.2.1, hs.2.2.2.1, hs.2.2.2.2.1, hs.2.2.2.2.2.1, hs.2.2.2.2.2.2.2.1, hs.2.2.2.2.2.2.2.2.1, hs.2.2.2.2.2.2.2.2.2.1⟩
  | .node _ _ (_, _, _, _, _, _) _ (.node _ _ _ _ r), hs, i + 1, h => BSm_at hs.2.2.2.2.2.2.2.2.2.2.2 i (by simp only [blen] at h; omega)

end Go.Proofs.YtldbmlojgakieaaGreatDoor

namespace Go.Proofs.YtldbmlojgakieaaGreatDoor

open Go.RowKit Go.Deep

attribute [local go_sem ↓] Go.wp_at_zero Go.wp_at_succ

/-- All lists and names are of a length that is one. -/
def BLm : BD → Prop
  | .nil => True
  | .node _ _ _ _ .nil => True
  | .node _ _ (_, ns, fn, ts, tz, ez) tb (.node _ _ _ eb r) => ns.length ≤ 9223372036854775807 ∧ XLm ns ∧ fn.size ≤ 9223372036854775807 ∧ tlen ts ≤ 9223372036854775807 ∧ TLm ts ∧ blen tb ≤ 9223372036854775807 ∧ BLm tb ∧ tlen tz ≤ 9223372036854775807 ∧ TLm tz ∧ blen eb ≤ 9223372036854775807 ∧ BLm eb ∧ tlen ez ≤ 9223372036854775807 ∧ TLm ez ∧ BLm r
theorem BLm_at : ∀ {f : BD}, BLm f → ∀ i, i < blen f → (bnames f i).length ≤ 9223372036854775807 ∧ XLm (bnames f i) ∧ (bfn f i).size ≤ 9223372036854775807 ∧ tlen (bterms f i) ≤ 9223372036854775807 ∧ TLm (bterms f i) ∧ blen (bthen f i) ≤ 9223372036854775807 ∧ BLm (bthen f i) ∧ tlen (btsay f i) ≤ 9223372036854775807 ∧ TLm (btsay f i) ∧ blen (belse f i) ≤ 9223372036854775807 ∧ BLm (belse f i) ∧ tlen (besay f i) ≤ 9223372036854775807 ∧ TLm (besay f i)
  | .nil, _, i, h => by simp [blen] at h
  | .node _ _ _ _ .nil, _, i, h => by simp [blen] at h
  | .node _ _ (_, _, _, _, _, _) _ (.node _ _ _ _ r), hs, 0, _ => ⟨hs.1, hs.2.1, hs.2.2.1, hs.2.2.2.1, hs.2.2.2.2.1, hs.2.2.2.2.2.1, hs.2.2.2.2.2.2.1, hs.2.2.2.2.2.2.2.1, hs.2.2.2.2.2.2.2.2.1, hs.2.2.2.2.2.2.2.2.2.1, hs.2.2.2.2.2.2.2.2.2.2.1, hs.2.2.2.2.2.2.2.2.2.2.2.1, hs.2.2.2.2.2.2.2.2.2.2.2.2.1⟩
  | .node _ _ (_, _, _, _, _, _) _ (.node _ _ _ _ r), hs, i + 1, h => BLm_at hs.2.2.2.2.2.2.2.2.2.2.2.2.2 i (by simp only [blen] at h; omega)

/-- How much bindings count. -/
def bW : BD → Nat
  | .nil => 0
  | .node _ _ _ _ .nil => 0
  | .node _ _ (_, ns, fn, ts, tz, ez) tb (.node _ _ _ eb r) => 1 + (xW ns + fn.size + tW ts + (bW tb + tW tz) + (bW eb + tW ez)) + bW r
def bWk (f : BD) (j : Nat) : Nat := xW (bnames f j) + (bfn f j).size + tW (bterms f j) + (bW (bthen f j) + tW (btsay f j)) + (bW (belse f j) + tW (besay f j))
theorem bW_sum : ∀ f : BD, bW f = blen f + sumN (bWk f) (blen f)
  | .nil => rfl
  | .node _ _ _ _ .nil => rfl
  | .node a b (k, ns, fn, ts, tz, ez) tb (.node c d q eb r) => by
    have h : sumN (fun i => bWk (.node a b (k, ns, fn, ts, tz, ez) tb (.node c d q eb r)) (i + 1)) (blen r) = sumN (bWk r) (blen r) := sumN_eq _ fun i _ => rfl
    rw [blen, sumN_shift, h, bW, bW_sum r]
    show _ = _ + ((xW ns + fn.size + tW ts + (bW tb + tW tz) + (bW eb + tW ez)) + _)
    omega

def BSmTo (f : BD) (k : Nat) : Prop := ∀ j, j < k → (bnames f j).length ≤ 1048576 ∧ (tlen (bterms f j) ≤ 1048576 ∧ TSm (bterms f j)) ∧ ((blen (bthen f j) ≤ 1048576 ∧ BSm (bthen f j)) ∧ tlen (btsay f j) ≤ 1048576 ∧ TSm (btsay f j)) ∧ ((blen (belse f j) ≤ 1048576 ∧ BSm (belse f j)) ∧ tlen (besay f j) ≤ 1048576 ∧ TSm (besay f j))
theorem BSm_of : ∀ {f : BD}, BSmTo f (blen f) → BSm f
  | .nil, _ => trivial
  | .node _ _ _ _ .nil, _ => trivial
  | .node _ _ (_, ns, fn, ts, tz, ez) tb (.node _ _ _ eb r), h => by
    obtain ⟨h1, ⟨h2, h3⟩, ⟨⟨h4, h5⟩, h6, h7⟩, ⟨h8, h9⟩, ha, hb⟩ := h 0 (by simp [blen])
    simp only [bnames, bterms, bthen, btsay, belse, besay] at h1 h2 h3 h4 h5 h6 h7 h8 h9 ha hb
    exact ⟨by omega, by omega, h3, by omega, h5, by omega, h7, by omega, h9, by omega, hb, BSm_of fun j hj => h (j + 1) (by simp only [blen]; omega)⟩

set_option maxRecDepth 100000 in
set_option maxHeartbeats 2000000 in
theorem szBindS_by (f : BD) (a : Option Addr) (c : Nat) (l : Int) (w : World) (hlen : blen f ≤ 9223372036854775807) (h0 : 0 ≤ l) (h1 : l ≤ 1048576) (hT : BA w 0 f a)
    (hK : ∀ j, j < blen f → ∀ (a1 : Option Addr) (k1 : Nat) (a3 : Option Addr) (k3 : Nat) (a4 : Option Addr) (k4 : Nat) (a5 : Option Addr) (k5 : Nat) (a6 : Option Addr) (k6 : Nat) (a7 : Option Addr) (k7 : Nat) (m : Int) (w' : World), Ex w w' → 0 ≤ m → m ≤ 1048576 → XA w' 0 (bnames f j) a1 → MA w' 0 (bterms f j) a3 → BA w' 0 (bthen f j) a4 → MA w' 0 (btsay f j) a5 → BA w' 0 (belse f j) a6 → MA w' 0 (besay f j) a7 → Calls Tryz.prog 87 #[.agg #[.int .i64 (bkind f j), .slice a1 (bnames f j).length k1, .string (bfn f j), .slice a3 (tlen (bterms f j)) k3, .slice a4 (blen (bthen f j)) k4, .slice a5 (tlen (btsay f j)) k5, .slice a6 (blen (belse f j)) k6, .slice a7 (tlen (besay f j)) k7], .int .i64 m] w' (SzP (bWk f j) ((bnames f j).length ≤ 1048576 ∧ (tlen (bterms f j) ≤ 1048576 ∧ TSm (bterms f j)) ∧ ((blen (bthen f j) ≤ 1048576 ∧ BSm (bthen f j)) ∧ tlen (btsay f j) ≤ 1048576 ∧ TSm (btsay f j)) ∧ ((blen (belse f j) ≤ 1048576 ∧ BSm (belse f j)) ∧ tlen (besay f j) ≤ 1048576 ∧ TSm (besay f j))) m w')) :
    Calls Tryz.prog 68 #[.slice a (blen f) c, .int .i64 l] w (SzP (bW f) (blen f ≤ 1048576 ∧ BSm f) l w) := by
  have T : Hid (∀ w', Ex w w' → BA w' 0 f a) := fun _ h => BA_below hT h
  have I : Hid _ := hK
  clear hT hK
  by_cases hneg : l - blen f < 0
  · go_enter Tryz.func68, Tryz.ntmps68
    go_wp2_with fail
    go_ret
    exact ⟨-1, rfl, by omega, by omega, fun h => by omega, Ex.refl _⟩
  · go_enter Tryz.func68, Tryz.ntmps68
    go_wp2_with fail
    go_loopw [1, 5] (fun lv i wr => ∃ (k : Nat) (x : Int), k ≤ blen f ∧ i = .int .i64 k ∧ lv = .int .i64 x ∧ 0 ≤ x ∧ x + (blen f + sumN (bWk f) k : Nat) ≤ l ∧ BSmTo f k ∧ Ex w wr) (fun _ i _ => blen f - (intOf i).toNat)
    case atStart => exact ⟨0, l - blen f, Nat.zero_le _, rfl, rfl, by omega, by simp only [sumN]; omega, fun j hj => by omega, Ex.refl _⟩
    case round =>
      obtain ⟨j, x, hk, rfl, rfl, hx0, hxl, hsm, hx⟩ := hrel
      have ST : Hid (BSmTo f j) := hsm
      have HX : Hid (x + (blen f + sumN (bWk f) j : Nat) ≤ l) := hxl
      have hxm : x ≤ l := by omega
      clear hxl
      have X : Hid (Ex w wr) := hx
      clear hsm hx
      by_cases hlt : j < blen f
      · obtain ⟨b, o, rfl, _, hbs, hk⟩ := BA_at (T.out wr X.out) (by omega)
        obtain ⟨b0, ⟨a1, k1, b1, hnc, x1⟩, b2, ⟨a3, k3, b3, x3⟩, ⟨a4, k4, b4, x4⟩, ⟨a5, k5, b5, x5⟩, ⟨a6, k6, b6, x6⟩, ⟨a7, k7, b7, x7⟩⟩ := hk j hlt
        have HI : Hid _ := I.out j hlt a1 k1 a3 k3 a4 k4 a5 k5 a6 k6 a7 k7 x wr X.out hx0 (by omega) x1 x3 x4 x5 x6 x7
        clear hk hnc x1 x3 x4 x5 x6 x7
        go_wp2_with fail
        refine Calls.mono HI.out ?_
        rintro e w1 ⟨y, rfl, hy0, hy1, hyf, hb1⟩
        have YF : Hid (0 ≤ y → (bnames f j).length ≤ 1048576 ∧ (tlen (bterms f j) ≤ 1048576 ∧ TSm (bterms f j)) ∧ ((blen (bthen f j) ≤ 1048576 ∧ BSm (bthen f j)) ∧ tlen (btsay f j) ≤ 1048576 ∧ TSm (btsay f j)) ∧ ((blen (belse f j) ≤ 1048576 ∧ BSm (belse f j)) ∧ tlen (besay f j) ≤ 1048576 ∧ TSm (besay f j))) := fun h => (hyf h).1
        have YW : Hid (0 ≤ y → y + (bWk f j : Nat) ≤ x) := fun h => (hyf h).2
        have X1 : Hid (Ex w w1) := X.out.trans hb1
        clear hyf hb1 HI
        by_cases hy : y < 0
        · go_wp2_with fail
          go_ret
          exact ⟨-1, rfl, by omega, by omega, fun h => by omega, X1.out⟩
        · have HS : Hid (BSmTo f (j + 1)) := fun i hi => by
            by_cases hj' : i < j
            · exact ST.out i hj'
            · have e : i = j := by omega
              subst e
              exact YF.out (by omega)
          have HX2 : Hid (y + (blen f + sumN (bWk f) (j + 1) : Nat) ≤ l) := by
            have q1 := HX.out
            have q2 := YW.out (by omega)
            show _ ≤ _
            simp only [sumN]
            omega
          go_wp2_with fail
          go_roundw
          case rel => exact ⟨j + 1, y, by omega, by go_num, rfl, by omega, HX2.out, HS.out, X1.out⟩
          case measure => simp [intOf]; omega
      · have hjl : j = blen f := by omega
        have HS : Hid _ := BSm_of (hjl ▸ ST.out)
        have HX2 : Hid (x + (bW f : Nat) ≤ l) := by
          have q1 := HX.out
          rw [hjl] at q1
          show _ ≤ _
          rw [bW_sum]
          exact q1
        clear hjl
        go_wp2_with fail
        go_ret
        exact ⟨x, rfl, by omega, by omega, fun _ => ⟨⟨by omega, HS.out⟩, HX2.out⟩, X.out⟩

set_option maxRecDepth 100000 in
set_option maxHeartbeats 2000000 in
theorem szBind_by (k : Int) (nm : List ByteArray) (a1 : Option Addr) (k1 : Nat) (fn : ByteArray) (ts : TM) (a3 : Option Addr) (k3 : Nat) (tb : BD) (a4 : Option Addr) (k4 : Nat) (tz : TM) (a5 : Option Addr) (k5 : Nat) (eb : BD) (a6 : Option Addr) (k6 : Nat) (ez : TM) (a7 : Option Addr) (k7 : Nat) (l : Int) (w : World) (hn : nm.length ≤ 9223372036854775807) (hx : XLm nm) (hf : fn.size ≤ 9223372036854775807) (ht : tlen ts ≤ 9223372036854775807) (htl : TLm ts) (hX : XA w 0 nm a1) (hM : MA w 0 ts a3) (hT : ∀ (m : Int) (w' : World), Ex w w' → 0 ≤ m → m ≤ 1048576 → Calls Tryz.prog 45 #[.agg #[.slice a4 (blen tb) k4, .slice a5 (tlen tz) k5], .int .i64 m] w' (SzP (bW tb + tW tz) ((blen tb ≤ 1048576 ∧ BSm tb) ∧ tlen tz ≤ 1048576 ∧ TSm tz) m w')) (hE : ∀ (m : Int) (w' : World), Ex w w' → 0 ≤ m → m ≤ 1048576 → Calls Tryz.prog 45 #[.agg #[.slice a6 (blen eb) k6, .slice a7 (tlen ez) k7], .int .i64 m] w' (SzP (bW eb + tW ez) ((blen eb ≤ 1048576 ∧ BSm eb) ∧ tlen ez ≤ 1048576 ∧ TSm ez) m w')) (h0 : 0 ≤ l) (h1 : l ≤ 1048576) :
    Calls Tryz.prog 87 #[.agg #[.int .i64 k, .slice a1 nm.length k1, .string fn, .slice a3 (tlen ts) k3, .slice a4 (blen tb) k4, .slice a5 (tlen tz) k5, .slice a6 (blen eb) k6, .slice a7 (tlen ez) k7], .int .i64 l] w (SzP (xW nm + fn.size + tW ts + (bW tb + tW tz) + (bW eb + tW ez)) (nm.length ≤ 1048576 ∧ (tlen ts ≤ 1048576 ∧ TSm ts) ∧ ((blen tb ≤ 1048576 ∧ BSm tb) ∧ tlen tz ≤ 1048576 ∧ TSm tz) ∧ ((blen eb ≤ 1048576 ∧ BSm eb) ∧ tlen ez ≤ 1048576 ∧ TSm ez)) l w) := by
  have N : Hid (Ex w (w.alloc (.cells #[.int .i64 k, .slice a1 nm.length k1, .string fn, .slice a3 (tlen ts) k3, .slice a4 (blen tb) k4, .slice a5 (tlen tz) k5, .slice a6 (blen eb) k6, .slice a7 (tlen ez) k7] 159))) := Ex.new _ _
  have C : Hid (∀ w', Ex (w.alloc (.cells #[.int .i64 k, .slice a1 nm.length k1, .string fn, .slice a3 (tlen ts) k3, .slice a4 (blen tb) k4, .slice a5 (tlen tz) k5, .slice a6 (blen eb) k6, .slice a7 (tlen ez) k7] 159)) w' → w'.cell? ⟨w.heap.size, 0, none⟩ = some (.int .i64 k) ∧ w'.cell? ⟨w.heap.size, 1, none⟩ = some (.slice a1 nm.length k1) ∧ w'.cell? ⟨w.heap.size, 2, none⟩ = some (.string fn) ∧ w'.cell? ⟨w.heap.size, 3, none⟩ = some (.slice a3 (tlen ts) k3) ∧ w'.cell? ⟨w.heap.size, 4, none⟩ = some (.slice a4 (blen tb) k4) ∧ w'.cell? ⟨w.heap.size, 5, none⟩ = some (.slice a5 (tlen tz) k5) ∧ w'.cell? ⟨w.heap.size, 6, none⟩ = some (.slice a6 (blen eb) k6) ∧ w'.cell? ⟨w.heap.size, 7, none⟩ = some (.slice a7 (tlen ez) k7)) := fun w' h => ⟨h.at (by simp), h.at (by simp), h.at (by simp), h.at (by simp), h.at (by simp), h.at (by simp), h.at (by simp), h.at (by simp)⟩
  go_enter Tryz.func87, Tryz.ntmps87
  go_wp2_with fail
  refine (szTexts_any nm a1 k1 l _ hn hx (by omega) (by omega) (XA_below hX N.out)).mono ?_
  rintro e w1 ⟨x1, rfl, hxa1, hxb1, hxf1, hxe1⟩
  have F1 : Hid (0 ≤ x1 → nm.length ≤ 1048576) := fun h => (hxf1 h).1
  have HV1 : Hid (0 ≤ x1 → x1 + (xW nm : Nat) ≤ l) := fun h => (hxf1 h).2
  have X1 : Hid (Ex (w.alloc (.cells #[.int .i64 k, .slice a1 nm.length k1, .string fn, .slice a3 (tlen ts) k3, .slice a4 (blen tb) k4, .slice a5 (tlen tz) k5, .slice a6 (blen eb) k6, .slice a7 (tlen ez) k7] 159)) w1) := hxe1
  have hr1 : x1 ≤ l := by omega
  clear hxf1 hxe1
  obtain ⟨c0, c1, c2, c3, c4, c5, c6, c7⟩ := C.out w1 X1.out
  by_cases hx1 : x1 < 0
  · go_wp2_with fail
    go_ret
    exact ⟨-1, rfl, by omega, by omega, fun h => by omega, (N.out.trans X1.out)⟩
  by_cases hb2 : x1 - fn.size < 0
  · go_wp2_with fail
    go_ret
    exact ⟨-1, rfl, by omega, by omega, fun h => by omega, (N.out.trans X1.out)⟩
  obtain ⟨m2, hm2⟩ : ∃ m : Int, m = x1 - fn.size := ⟨_, rfl⟩
  have hp2 : 0 ≤ m2 := by omega
  have HV2 : Hid (m2 + (fn.size : Nat) ≤ x1) := by show _ ≤ _; omega
  have hq2 : m2 ≤ l := by omega
  go_wp2_with fail
  rw [← hm2]
  clear hb2 hm2
  refine (szTermS_any ts a3 k3 m2 _ ht htl (by omega) (by omega) (MA_below hM (N.out.trans X1.out))).mono ?_
  rintro e w3 ⟨x3, rfl, hxa3, hxb3, hxf3, hxe3⟩
  have F3 : Hid (0 ≤ x3 → tlen ts ≤ 1048576 ∧ TSm ts) := fun h => (hxf3 h).1
  have HV3 : Hid (0 ≤ x3 → x3 + (tW ts : Nat) ≤ m2) := fun h => (hxf3 h).2
  have X3 : Hid (Ex (w.alloc (.cells #[.int .i64 k, .slice a1 nm.length k1, .string fn, .slice a3 (tlen ts) k3, .slice a4 (blen tb) k4, .slice a5 (tlen tz) k5, .slice a6 (blen eb) k6, .slice a7 (tlen ez) k7] 159)) w3) := X1.out.trans hxe3
  have hr3 : x3 ≤ l := by omega
  clear hxf3 hxe3
  clear c0 c1 c2 c3 c4 c5 c6 c7
  obtain ⟨c0, c1, c2, c3, c4, c5, c6, c7⟩ := C.out w3 X3.out
  by_cases hx3 : x3 < 0
  · go_wp2_with fail
    go_ret
    exact ⟨-1, rfl, by omega, by omega, fun h => by omega, (N.out.trans X3.out)⟩
  go_wp2_with fail
  refine (hT x3 _ (N.out.trans X3.out) (by omega) (by omega)).mono ?_
  rintro e w4 ⟨x4, rfl, hxa4, hxb4, hxf4, hxe4⟩
  have F4 : Hid (0 ≤ x4 → (blen tb ≤ 1048576 ∧ BSm tb) ∧ tlen tz ≤ 1048576 ∧ TSm tz) := fun h => (hxf4 h).1
  have HV4 : Hid (0 ≤ x4 → x4 + (bW tb + tW tz : Nat) ≤ x3) := fun h => (hxf4 h).2
  have X4 : Hid (Ex (w.alloc (.cells #[.int .i64 k, .slice a1 nm.length k1, .string fn, .slice a3 (tlen ts) k3, .slice a4 (blen tb) k4, .slice a5 (tlen tz) k5, .slice a6 (blen eb) k6, .slice a7 (tlen ez) k7] 159)) w4) := X3.out.trans hxe4
  have hr4 : x4 ≤ l := by omega
  clear hxf4 hxe4
  clear c0 c1 c2 c3 c4 c5 c6 c7
  obtain ⟨c0, c1, c2, c3, c4, c5, c6, c7⟩ := C.out w4 X4.out
  by_cases hx4 : x4 < 0
  · go_wp2_with fail
    go_ret
    exact ⟨-1, rfl, by omega, by omega, fun h => by omega, (N.out.trans X4.out)⟩
  go_wp2_with fail
  refine (hE x4 _ (N.out.trans X4.out) (by omega) (by omega)).mono ?_
  rintro e w5 ⟨x5, rfl, hxa5, hxb5, hxf5, hxe5⟩
  have F5 : Hid (0 ≤ x5 → (blen eb ≤ 1048576 ∧ BSm eb) ∧ tlen ez ≤ 1048576 ∧ TSm ez) := fun h => (hxf5 h).1
  have HV5 : Hid (0 ≤ x5 → x5 + (bW eb + tW ez : Nat) ≤ x4) := fun h => (hxf5 h).2
  have X5 : Hid (Ex (w.alloc (.cells #[.int .i64 k, .slice a1 nm.length k1, .string fn, .slice a3 (tlen ts) k3, .slice a4 (blen tb) k4, .slice a5 (tlen tz) k5, .slice a6 (blen eb) k6, .slice a7 (tlen ez) k7] 159)) w5) := X4.out.trans hxe5
  have hr5 : x5 ≤ l := by omega
  clear hxf5 hxe5
  clear c0 c1 c2 c3 c4 c5 c6 c7
  obtain ⟨c0, c1, c2, c3, c4, c5, c6, c7⟩ := C.out w5 X5.out
  by_cases hx5 : x5 < 0
  · go_wp2_with fail
    go_ret
    exact ⟨-1, rfl, by omega, by omega, fun h => by omega, (N.out.trans X5.out)⟩
  go_wp2_with fail
  go_ret
  exact ⟨x5, rfl, by omega, by omega, fun _ => ⟨⟨F1.out (by omega), F3.out (by omega), F4.out (by omega), F5.out (by omega)⟩, by have v2 := HV2.out; have v1 := HV1.out (by omega); have v3 := HV3.out (by omega); have v4 := HV4.out (by omega); have v5 := HV5.out (by omega); omega⟩, (N.out.trans X5.out)⟩

set_option maxRecDepth 100000 in
set_option maxHeartbeats 2000000 in
theorem szBody_by (b : BD) (ba : Option Addr) (bc : Nat) (z : TM) (za : Option Addr) (zc : Nat) (l : Int) (w : World) (hz : tlen z ≤ 9223372036854775807) (hzl : TLm z) (hM : MA w 0 z za) (hB : ∀ (m : Int) (w' : World), Ex w w' → 0 ≤ m → m ≤ 1048576 → Calls Tryz.prog 68 #[.slice ba (blen b) bc, .int .i64 m] w' (SzP (bW b) (blen b ≤ 1048576 ∧ BSm b) m w')) (h0 : 0 ≤ l) (h1 : l ≤ 1048576) :
    Calls Tryz.prog 45 #[.agg #[.slice ba (blen b) bc, .slice za (tlen z) zc], .int .i64 l] w (SzP (bW b + tW z) ((blen b ≤ 1048576 ∧ BSm b) ∧ tlen z ≤ 1048576 ∧ TSm z) l w) := by
  have N : Hid (Ex w (w.alloc (.cells #[.slice ba (blen b) bc, .slice za (tlen z) zc] 44))) := Ex.new _ _
  have C : Hid (∀ w', Ex (w.alloc (.cells #[.slice ba (blen b) bc, .slice za (tlen z) zc] 44)) w' → w'.cell? ⟨w.heap.size, 0, none⟩ = some (.slice ba (blen b) bc) ∧ w'.cell? ⟨w.heap.size, 1, none⟩ = some (.slice za (tlen z) zc)) := fun w' h => ⟨h.at (by simp), h.at (by simp)⟩
  go_enter Tryz.func45, Tryz.ntmps45
  go_wp2_with fail
  refine (hB l _ N.out (by omega) (by omega)).mono ?_
  rintro e w1 ⟨x1, rfl, hxa1, hxb1, hxf1, hxe1⟩
  have F1 : Hid (0 ≤ x1 → blen b ≤ 1048576 ∧ BSm b) := fun h => (hxf1 h).1
  have HV1 : Hid (0 ≤ x1 → x1 + (bW b : Nat) ≤ l) := fun h => (hxf1 h).2
  have X1 : Hid (Ex (w.alloc (.cells #[.slice ba (blen b) bc, .slice za (tlen z) zc] 44)) w1) := hxe1
  have hr1 : x1 ≤ l := by omega
  clear hxf1 hxe1
  obtain ⟨c0, c1⟩ := C.out w1 X1.out
  by_cases hx1 : x1 < 0
  · go_wp2_with fail
    go_ret
    exact ⟨-1, rfl, by omega, by omega, fun h => by omega, (N.out.trans X1.out)⟩
  go_wp2_with fail
  refine (szTermS_any z za zc x1 _ hz hzl (by omega) (by omega) (MA_below hM (N.out.trans X1.out))).mono ?_
  rintro e w2 ⟨x2, rfl, hxa2, hxb2, hxf2, hxe2⟩
  have F2 : Hid (0 ≤ x2 → tlen z ≤ 1048576 ∧ TSm z) := fun h => (hxf2 h).1
  have HV2 : Hid (0 ≤ x2 → x2 + (tW z : Nat) ≤ x1) := fun h => (hxf2 h).2
  have X2 : Hid (Ex (w.alloc (.cells #[.slice ba (blen b) bc, .slice za (tlen z) zc] 44)) w2) := X1.out.trans hxe2
  have hr2 : x2 ≤ l := by omega
  clear hxf2 hxe2
  clear c0 c1
  obtain ⟨c0, c1⟩ := C.out w2 X2.out
  by_cases hx2 : x2 < 0
  · go_wp2_with fail
    go_ret
    exact ⟨-1, rfl, by omega, by omega, fun h => by omega, (N.out.trans X2.out)⟩
  go_wp2_with fail
  go_ret
  exact ⟨x2, rfl, by omega, by omega, fun _ => ⟨⟨F1.out (by omega), F2.out (by omega)⟩, by have v1 := HV1.out (by omega); have v2 := HV2.out (by omega); omega⟩, (N.out.trans X2.out)⟩

theorem szBody_all : ∀ (d : Nat) (b : BD) (ba : Option Addr) (bc : Nat) (z : TM) (za : Option Addr) (zc : Nat) (l : Int) (w : World), bdep b < d → blen b ≤ 9223372036854775807 → BLm b → tlen z ≤ 9223372036854775807 → TLm z → 0 ≤ l → l ≤ 1048576 → BA w 0 b ba → MA w 0 z za →
    Calls Tryz.prog 45 #[.agg #[.slice ba (blen b) bc, .slice za (tlen z) zc], .int .i64 l] w (SzP (bW b + tW z) ((blen b ≤ 1048576 ∧ BSm b) ∧ tlen z ≤ 1048576 ∧ TSm z) l w) := by
  intro d
  induction d with
  | zero => intro b ba bc z za zc l w hd; omega
  | succ d ih =>
    intro b ba bc z za zc l w hd hbl hbm hzl hzm h0 h1 hB hM
    refine szBody_by b ba bc z za zc l w hzl hzm hM (fun m w' hx hm0 hm1 => ?_) h0 h1
    refine szBindS_by b ba bc m w' hbl hm0 hm1 (BA_below hB hx) fun j hj a1 k1 a3 k3 a4 k4 a5 k5 a6 k6 a7 k7 m2 w2 hx2 hm2 hm3 y1 y3 y4 y5 y6 y7 => ?_
    obtain ⟨g1, g2, g3, g4, g5, g6, g7, g8, g9, ga, gb, gc, gd⟩ := BLm_at hbm j hj
    have hdj := bdep_kid b j hj
    exact szBind_by _ _ a1 k1 _ _ a3 k3 _ a4 k4 _ a5 k5 _ a6 k6 _ a7 k7 m2 w2 g1 g2 g3 g4 g5 y1 y3
      (fun m4 w4 hx4 h4 h5 => ih _ a4 k4 _ a5 k5 m4 w4 (by omega) g6 g7 g8 g9 h4 h5 (BA_below y4 hx4) (MA_below y5 hx4))
      (fun m4 w4 hx4 h4 h5 => ih _ a6 k6 _ a7 k7 m4 w4 (by omega) ga gb gc gd h4 h5 (BA_below y6 hx4) (MA_below y7 hx4)) hm2 hm3

/-- All lists and names of a function are of a length that is one. -/
def PLm (f : PM) : Prop := f.name.size ≤ 9223372036854775807 ∧ f.params.length ≤ 9223372036854775807 ∧ XLm f.params ∧ blen f.binds ≤ 9223372036854775807 ∧ BLm f.binds ∧ tlen f.says ≤ 9223372036854775807 ∧ TLm f.says
/-- All lists are of a length that can be counted. -/
def PSk (f : PM) : Prop := f.params.length ≤ 1048576 ∧ (blen f.binds ≤ 1048576 ∧ BSm f.binds) ∧ tlen f.says ≤ 1048576 ∧ TSm f.says
/-- How much a function counts, and how much functions. -/
def pW (f : PM) : Nat := f.name.size + xW f.params + (bW f.binds + tW f.says)
def qWk (l : List PM) (j : Nat) : Nat := pW (l.getD j pm0)
def qW (l : List PM) : Nat := l.length + sumN (qWk l) l.length
theorem qW_sum (l : List PM) : qW l = l.length + sumN (qWk l) l.length := rfl
def PSkTo (l : List PM) (k : Nat) : Prop := ∀ j, j < k → PSk (l.getD j pm0)

set_option maxRecDepth 100000 in
set_option maxHeartbeats 2000000 in
theorem szPure_by (nm : ByteArray) (ps : List ByteArray) (a1 : Option Addr) (k1 : Nat) (b : BD) (a2 : Option Addr) (k2 : Nat) (z : TM) (a3 : Option Addr) (k3 : Nat) (l : Int) (w : World) (hn : nm.size ≤ 9223372036854775807) (hp : ps.length ≤ 9223372036854775807) (hx : XLm ps) (hX : XA w 0 ps a1) (hB : ∀ (m : Int) (w' : World), Ex w w' → 0 ≤ m → m ≤ 1048576 → Calls Tryz.prog 45 #[.agg #[.slice a2 (blen b) k2, .slice a3 (tlen z) k3], .int .i64 m] w' (SzP (bW b + tW z) ((blen b ≤ 1048576 ∧ BSm b) ∧ tlen z ≤ 1048576 ∧ TSm z) m w')) (h0 : 0 ≤ l) (h1 : l ≤ 1048576) :
    Calls Tryz.prog 18 #[.agg #[.string nm, .slice a1 ps.length k1, .slice a2 (blen b) k2, .slice a3 (tlen z) k3], .int .i64 l] w (SzP (nm.size + xW ps + (bW b + tW z)) (ps.length ≤ 1048576 ∧ (blen b ≤ 1048576 ∧ BSm b) ∧ tlen z ≤ 1048576 ∧ TSm z) l w) := by
  have N : Hid (Ex w (w.alloc (.cells #[.string nm, .slice a1 ps.length k1, .slice a2 (blen b) k2, .slice a3 (tlen z) k3] 46))) := Ex.new _ _
  have C : Hid (∀ w', Ex (w.alloc (.cells #[.string nm, .slice a1 ps.length k1, .slice a2 (blen b) k2, .slice a3 (tlen z) k3] 46)) w' → w'.cell? ⟨w.heap.size, 0, none⟩ = some (.string nm) ∧ w'.cell? ⟨w.heap.size, 1, none⟩ = some (.slice a1 ps.length k1) ∧ w'.cell? ⟨w.heap.size, 2, none⟩ = some (.slice a2 (blen b) k2) ∧ w'.cell? ⟨w.heap.size, 3, none⟩ = some (.slice a3 (tlen z) k3)) := fun w' h => ⟨h.at (by simp), h.at (by simp), h.at (by simp), h.at (by simp)⟩
  by_cases hb1 : l - nm.size < 0
  · go_enter Tryz.func18, Tryz.ntmps18
    go_wp2_with fail
    go_ret
    exact ⟨-1, rfl, by omega, by omega, fun h => by omega, N.out⟩
  obtain ⟨m1, hm1⟩ : ∃ m : Int, m = l - nm.size := ⟨_, rfl⟩
  have hp1 : 0 ≤ m1 := by omega
  have HV1 : Hid (m1 + (nm.size : Nat) ≤ l) := by show _ ≤ _; omega
  have hq1 : m1 ≤ l := by omega
  go_enter Tryz.func18, Tryz.ntmps18
  go_wp2_with fail
  rw [← hm1]
  clear hb1 hm1
  refine (szTexts_any ps a1 k1 m1 _ hp hx (by omega) (by omega) (XA_below hX N.out)).mono ?_
  rintro e w2 ⟨x2, rfl, hxa2, hxb2, hxf2, hxe2⟩
  have F2 : Hid (0 ≤ x2 → ps.length ≤ 1048576) := fun h => (hxf2 h).1
  have HV2 : Hid (0 ≤ x2 → x2 + (xW ps : Nat) ≤ m1) := fun h => (hxf2 h).2
  have X2 : Hid (Ex (w.alloc (.cells #[.string nm, .slice a1 ps.length k1, .slice a2 (blen b) k2, .slice a3 (tlen z) k3] 46)) w2) := hxe2
  have hr2 : x2 ≤ l := by omega
  clear hxf2 hxe2
  obtain ⟨c0, c1, c2, c3⟩ := C.out w2 X2.out
  by_cases hx2 : x2 < 0
  · go_wp2_with fail
    go_ret
    exact ⟨-1, rfl, by omega, by omega, fun h => by omega, (N.out.trans X2.out)⟩
  go_wp2_with fail
  refine (hB x2 _ (N.out.trans X2.out) (by omega) (by omega)).mono ?_
  rintro e w3 ⟨x3, rfl, hxa3, hxb3, hxf3, hxe3⟩
  have F3 : Hid (0 ≤ x3 → (blen b ≤ 1048576 ∧ BSm b) ∧ tlen z ≤ 1048576 ∧ TSm z) := fun h => (hxf3 h).1
  have HV3 : Hid (0 ≤ x3 → x3 + (bW b + tW z : Nat) ≤ x2) := fun h => (hxf3 h).2
  have X3 : Hid (Ex (w.alloc (.cells #[.string nm, .slice a1 ps.length k1, .slice a2 (blen b) k2, .slice a3 (tlen z) k3] 46)) w3) := X2.out.trans hxe3
  have hr3 : x3 ≤ l := by omega
  clear hxf3 hxe3
  clear c0 c1 c2 c3
  obtain ⟨c0, c1, c2, c3⟩ := C.out w3 X3.out
  by_cases hx3 : x3 < 0
  · go_wp2_with fail
    go_ret
    exact ⟨-1, rfl, by omega, by omega, fun h => by omega, (N.out.trans X3.out)⟩
  go_wp2_with fail
  go_ret
  exact ⟨x3, rfl, by omega, by omega, fun _ => ⟨⟨F2.out (by omega), F3.out (by omega)⟩, by have v1 := HV1.out; have v2 := HV2.out (by omega); have v3 := HV3.out (by omega); omega⟩, (N.out.trans X3.out)⟩

set_option maxRecDepth 100000 in
set_option maxHeartbeats 2000000 in
theorem szPureS_by (f : List PM) (a : Option Addr) (c : Nat) (l : Int) (w : World) (hlen : f.length ≤ 9223372036854775807) (h0 : 0 ≤ l) (h1 : l ≤ 1048576) (hT : QA w 0 f a)
    (hK : ∀ j, j < f.length → ∀ (a1 : Option Addr) (k1 : Nat) (a2 : Option Addr) (k2 : Nat) (a3 : Option Addr) (k3 : Nat) (m : Int) (w' : World), Ex w w' → 0 ≤ m → m ≤ 1048576 → XA w' 0 (f.getD j pm0).params a1 → BA w' 0 (f.getD j pm0).binds a2 → MA w' 0 (f.getD j pm0).says a3 → Calls Tryz.prog 18 #[.agg #[.string (f.getD j pm0).name, .slice a1 (f.getD j pm0).params.length k1, .slice a2 (blen (f.getD j pm0).binds) k2, .slice a3 (tlen (f.getD j pm0).says) k3], .int .i64 m] w' (SzP (qWk f j) (PSk (f.getD j pm0)) m w')) :
    Calls Tryz.prog 5 #[.slice a (f.length) c, .int .i64 l] w (SzP (qW f) (f.length ≤ 1048576 ∧ PSkTo f f.length) l w) := by
  have T : Hid (∀ w', Ex w w' → QA w' 0 f a) := fun _ h => QA_below hT h
  have I : Hid _ := hK
  clear hT hK
  by_cases hneg : l - f.length < 0
  · go_enter Tryz.func5, Tryz.ntmps5
    go_wp2_with fail
    go_ret
    exact ⟨-1, rfl, by omega, by omega, fun h => by omega, Ex.refl _⟩
  · go_enter Tryz.func5, Tryz.ntmps5
    go_wp2_with fail
    go_loopw [1, 5] (fun lv i wr => ∃ (k : Nat) (x : Int), k ≤ f.length ∧ i = .int .i64 k ∧ lv = .int .i64 x ∧ 0 ≤ x ∧ x + (f.length + sumN (qWk f) k : Nat) ≤ l ∧ PSkTo f k ∧ Ex w wr) (fun _ i _ => f.length - (intOf i).toNat)
    case atStart => exact ⟨0, l - f.length, Nat.zero_le _, rfl, rfl, by omega, by simp only [sumN]; omega, fun j hj => by omega, Ex.refl _⟩
    case round =>
      obtain ⟨j, x, hk, rfl, rfl, hx0, hxl, hsm, hx⟩ := hrel
      have ST : Hid (PSkTo f j) := hsm
      have HX : Hid (x + (f.length + sumN (qWk f) j : Nat) ≤ l) := hxl
      have hxm : x ≤ l := by omega
      clear hxl
      have X : Hid (Ex w wr) := hx
      clear hsm hx
      by_cases hlt : j < f.length
      · obtain ⟨b, o, rfl, _, hbs, hk⟩ := QA_at (T.out wr X.out) (by omega)
        obtain ⟨b0, ⟨a1, k1, b1, hnc, x1⟩, ⟨a2, k2, b2, x2⟩, ⟨a3, k3, b3, x3⟩⟩ := hk j hlt
        have HI : Hid _ := I.out j hlt a1 k1 a2 k2 a3 k3 x wr X.out hx0 (by omega) x1 x2 x3
        clear hk hnc x1 x2 x3
        obtain ⟨g, hg⟩ : ∃ g, f.getD j pm0 = g := ⟨_, rfl⟩
        rw [hg] at b0 b1 b2 b3 HI
        have HG : Hid (f.getD j pm0 = g) := hg
        clear hg
        obtain ⟨gn, gp, gb, gs⟩ := g
        dsimp only at b0 b1 b2 b3 HI
        go_wp2_with fail
        refine Calls.mono HI.out ?_
        rintro e w1 ⟨y, rfl, hy0, hy1, hyf, hb1⟩
        have YF : Hid (0 ≤ y → PSk ⟨gn, gp, gb, gs⟩) := fun h => (hyf h).1
        have YW : Hid (0 ≤ y → y + (qWk f j : Nat) ≤ x) := fun h => (hyf h).2
        have X1 : Hid (Ex w w1) := X.out.trans hb1
        clear hyf hb1 HI
        by_cases hy : y < 0
        · go_wp2_with fail
          go_ret
          exact ⟨-1, rfl, by omega, by omega, fun h => by omega, X1.out⟩
        · have HS : Hid (PSkTo f (j + 1)) := fun i hi => by
            by_cases hj' : i < j
            · exact ST.out i hj'
            · have e : i = j := by omega
              subst e
              rw [HG.out]; exact YF.out (by omega)
          have HX2 : Hid (y + (f.length + sumN (qWk f) (j + 1) : Nat) ≤ l) := by
            have q1 := HX.out
            have q2 := YW.out (by omega)
            show _ ≤ _
            simp only [sumN]
            omega
          go_wp2_with fail
          go_roundw
          case rel => exact ⟨j + 1, y, by omega, by go_num, rfl, by omega, HX2.out, HS.out, X1.out⟩
          case measure => simp [intOf]; omega
      · have hjl : j = f.length := by omega
        have HS : Hid _ := id (hjl ▸ ST.out)
        have HX2 : Hid (x + (qW f : Nat) ≤ l) := by
          have q1 := HX.out
          rw [hjl] at q1
          show _ ≤ _
          rw [qW_sum]
          exact q1
        clear hjl
        go_wp2_with fail
        go_ret
        exact ⟨x, rfl, by omega, by omega, fun _ => ⟨⟨by omega, HS.out⟩, HX2.out⟩, X.out⟩

theorem szPureS_any (f : List PM) (a : Option Addr) (c : Nat) (l : Int) (w : World) (hlen : f.length ≤ 9223372036854775807) (hlm : ∀ j, j < f.length → PLm (f.getD j pm0)) (h0 : 0 ≤ l) (h1 : l ≤ 1048576) (hT : QA w 0 f a) :
    Calls Tryz.prog 5 #[.slice a f.length c, .int .i64 l] w (SzP (qW f) (f.length ≤ 1048576 ∧ PSkTo f f.length) l w) := by
  refine szPureS_by f a c l w hlen h0 h1 hT fun j hj a1 k1 a2 k2 a3 k3 m w' _ hm0 hm1 y1 y2 y3 => ?_
  obtain ⟨g1, g2, g3, g4, g5, g6, g7⟩ := hlm j hj
  exact szPure_by _ _ a1 k1 _ a2 k2 _ a3 k3 m w' g1 g2 g3 y1 (fun m4 w4 hx4 h4 h5 => szBody_all _ _ a2 k2 _ a3 k3 m4 w4 (Nat.lt_succ_self _) g4 g5 g6 g7 h4 h5 (BA_below y2 hx4) (MA_below y3 hx4)) hm0 hm1

end Go.Proofs.YtldbmlojgakieaaGreatDoor
