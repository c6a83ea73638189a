/- Of which types terms are, without the program; a map of types in memory, and rows of types. -/
import Derived.Test.YthdihpcpobhadaaDoorIM5

import Derived.Test.YthdihpcpobhadaaDoorW7

import Derived.Test.YthdihpcpobhadaaDoorE1

import Derived.Deep.AppendLies

namespace Go.Proofs.YthdihpcpobhadaaDoor

open Go.RowKit Go.Deep Go.Maps Go.WideMaps

/-- Of which type something is that is made of such of these types. -/
def opT (k : Int) (p : List Int) (l : F) : Option F :=
  if k = 6 then (if fits 4 l = true then some l else none)
  else if k = 7 then partF (kid l 0) p
  else if k = 8 then (match partF (kid l 0) p with | some g => if eqT g (kid l 1) = true then some (kid l 0) else none | none => none)
  else if len (kid l 0) = 0 ∧ len (kid l 1) = 0 then some .nil else none
/-- .. a term, told those of its own list. -/
def oneT (L : ByteArray → F) (k : Int) (s : ByteArray) (p : List Int) : Option F → Option F
  | none => none
  | some l => if k = 1 then some .nil else if k = 2 then some (L s) else opT k p l
/-- .. terms. -/
def evT (L : ByteArray → F) : TM → Option F
  | .nil => some .nil
  | .node _ _ (k, _, s, p) f r => (oneT L k s p (evT L f)).bind fun v => (evT L r).bind fun l => some (.node 0 0 0 v l)
/-- .. a term of a list. -/
def evTAt (L : ByteArray → F) (f : TM) (i : Nat) : Option F := oneT L (tkind f i) (tname f i) (tpath f i) (evT L (tkid f i))
/-- .. the first terms of a list. -/
def evTP (L : ByteArray → F) (f : TM) : Nat → Option F
  | 0 => some .nil
  | j + 1 => (evTP L f j).bind fun l => (evTAt L f j).bind fun v => some (snoc l 0 v)

theorem evTP_node (L : ByteArray → F) (x y : Nat) (d : Int × Int × ByteArray × List Int) (f r : TM) : ∀ j, evTP L (.node x y d f r) (j + 1) = (evTAt L (.node x y d f r) 0).bind fun v => (evTP L r j).bind fun l => some (.node 0 0 0 v l)
  | 0 => by
    obtain ⟨k, n, s, p⟩ := d
    simp only [evTP, Option.bind_some]
    cases evTAt L (.node x y (k, n, s, p) f r) 0 <;> rfl
  | j + 1 => by
    obtain ⟨k, n, s, p⟩ := d
    rw [evTP, evTP_node L x y (k, n, s, p) f r j, evTP]
    cases h1 : evTAt L (.node x y (k, n, s, p) f r) 0 with
    | none => rfl
    | some v =>
      simp only [Option.bind_some]
      cases h2 : evTP L r j with
      | none => rfl
      | some l =>
        simp only [Option.bind_some]
        have e : evTAt L (.node x y (k, n, s, p) f r) (j + 1) = evTAt L r j := rfl
        rw [e]
        cases evTAt L r j <;> rfl
theorem evTP_all (L : ByteArray → F) : ∀ f : TM, evTP L f (tlen f) = evT L f
  | .nil => rfl
  | .node x y (k, n, s, p) f r => by
    have e : tlen (.node x y (k, n, s, p) f r : TM) = tlen r + 1 := rfl
    rw [e, evTP_node, evTP_all L r]
    rfl
theorem evTP_none {L : ByteArray → F} {f : TM} {j : Nat} (h : evTP L f j = none) : ∀ i, j ≤ i → evTP L f i = none := by
  intro i hi
  induction i with
  | zero => have : j = 0 := by omega
            rw [this] at h; exact h
  | succ i ih =>
    by_cases e : j = i + 1
    · rw [← e]; exact h
    · rw [evTP, ih (by omega)]; rfl
theorem evT_none {L : ByteArray → F} {f : TM} {j : Nat} (hj : j < tlen f) (h : evTAt L f j = none) : evT L f = none := by
  rw [← evTP_all]
  refine evTP_none (j := j + 1) ?_ _ hj
  rw [evTP]
  cases evTP L f j with
  | none => rfl
  | some l => simp only [Option.bind_some]; rw [h]; rfl
theorem evTP_snoc {L : ByteArray → F} {f : TM} {j : Nat} {l v : F} (h : evTP L f j = some l) (hv : evTAt L f j = some v) : evTP L f (j + 1) = some (snoc l 0 v) := by
  rw [evTP, h, Option.bind_some, hv]; rfl
theorem evT_len {L : ByteArray → F} : ∀ {f : TM} {l : F}, evT L f = some l → len l = tlen f
  | .nil, l, h => by cases h; rfl
  | .node x y (k, n, s, p) f r, l, h => by
    rw [evT] at h
    cases h1 : oneT L k s p (evT L f) with
    | none => rw [h1] at h; cases h
    | some v =>
      rw [h1] at h
      simp only [Option.bind_some] at h
      cases h2 : evT L r with
      | none => rw [h2] at h; cases h
      | some q =>
        rw [h2] at h; cases h
        show len q + 1 = tlen r + 1
        rw [evT_len h2]
/-- .. each of a list that is told. -/
theorem evT_at {L : ByteArray → F} {f : TM} {l : F} (h : evT L f = some l) {j : Nat} (hj : j < tlen f) : evTAt L f j = some (kid l j) := by
  rw [← evTP_all] at h
  have key : ∀ n, n ≤ tlen f → ∀ l, evTP L f n = some l → len l = n ∧ ∀ j, j < n → evTAt L f j = some (kid l j) := by
    intro n
    induction n with
    | zero => intro _ l hl; cases hl; exact ⟨rfl, fun j hj => absurd hj (Nat.not_lt_zero _)⟩
    | succ n ih =>
      intro hn l hl
      rw [evTP] at hl
      cases h1 : evTP L f n with
      | none => rw [h1] at hl; cases hl
      | some q =>
        rw [h1, Option.bind_some] at hl
        cases h2 : evTAt L f n with
        | none => rw [h2] at hl; cases hl
        | some v =>
          rw [h2] at hl; cases hl
          obtain ⟨e, hk⟩ := ih (by omega) q h1
          refine ⟨by rw [len_snoc, e], fun j hj => ?_⟩
          rw [kid_snoc]
          by_cases hlt : j < n
          · rw [if_pos (by omega)]; exact hk j hlt
          · have : j = n := by omega
            rw [if_neg (by omega), if_pos (by omega), this]; exact h2
  exact (key _ (Nat.le_refl _) l h).2 j hj

theorem SA_ex {w w' : World} {S : Nat → Prop} {f : F} {a : Option Addr} (h : SA w S f a) (hx : Ex w w') : SA w' S f a := SA_ks h fun b _ hlt => hx.block b hlt

/-- A type that is told, or the fault that there is none. What is told lies in blocks of S, or in new ones. -/
def TyP (eb : Addr) (S : Nat → Prop) (R : Option F) (w : World) (e : Ending) (w' : World) : Prop :=
  ∃ a' c', e = .returned (.tuple #[.agg #[.slice a' (len (R.getD .nil)) c'], errV eb R.isSome]) ∧ SA w' (fun b => S b ∨ w.heap.size ≤ b) (R.getD .nil) a' ∧ Ex w w'
/-- .. types. -/
def TysP (eb : Addr) (S : Nat → Prop) (R : Option F) (w : World) (e : Ending) (w' : World) : Prop :=
  ∃ a' c', e = .returned (.tuple #[.slice a' (len (R.getD .nil)) c', errV eb R.isSome]) ∧ SA w' (fun b => S b ∨ w.heap.size ≤ b) (R.getD .nil) a' ∧ Ex w w'

/-- How an element of the map reads: as itself. -/
def selfT : Value → Option (DataW Value × List MemPlace) := fun v => some (.held v, [])
abbrev zT : Value := .agg #[.slice none 0 0]

/-- A block is a map that holds of each name its type. -/
def KM (w : World) (S : Nat → Prop) (mb n : Nat) (L : ByteArray → F) : Prop := ∃ D : DataW Value, w.ownsMap Tryd.prog 9 selfT mb n D ∧
  ∀ s : ByteArray, ∃ a c, D.atKey (.string s.data.toList) (.held zT) = .held (.agg #[.slice a (len (L s)) c]) ∧ SA w S (L s) a
theorem KM_made (w : World) (S : Nat → Prop) : KM (w.alloc (.map #[] 0)) S w.heap.size 0 fun _ => .nil := ⟨_, World.ownsMap_made w _ _ _, fun _ => ⟨none, 0, rfl, Or.inl rfl⟩⟩
theorem KM.lt {w : World} {S : Nat → Prop} {mb n : Nat} {L : ByteArray → F} (h : KM w S mb n L) : mb < w.heap.size := by
  obtain ⟨D, h1, _⟩ := h
  exact h1.lt
theorem KM.ex {w w' : World} {S : Nat → Prop} {mb n : Nat} {L : ByteArray → F} (h : KM w S mb n L) (hx : Ex w w') : KM w' S mb n L := by
  have hl := h.lt
  obtain ⟨D, ⟨es, cl, h1, h2⟩, h3⟩ := h
  exact ⟨D, ⟨es, cl, (hx.block mb hl).trans h1, h2⟩, fun s => by
    obtain ⟨a, c, e, hV⟩ := h3 s
    exact ⟨a, c, e, SA_ex hV hx⟩⟩
theorem Tryd.zeroType (w : World) : (zeroValue 32).run Tryd.prog w = .ok zT w := by kernel_rfl
/-- A name asked for. -/
theorem KM.look {w : World} {S : Nat → Prop} {mb n : Nat} {L : ByteArray → F} (h : KM w S mb n L) {s : ByteArray} (hs : s.size ≤ 9223372036854775807) :
    ∃ a c, (Instr.lookup 105 (.map (some mb)) (.string s) false).run Tryd.prog w = .ok (.agg #[.slice a (len (L s)) c]) w ∧ SA w S (L s) a := by
  obtain ⟨D, h1, h2⟩ := h
  obtain ⟨a, c, e, hV⟩ := h2 s
  obtain ⟨v, ps, hr, hv⟩ := h1.lookup Tryd.keyed Tryd.underlying105 (Tryd.zeroType _) (zd := .held zT) (zp := []) rfl (key_string hs)
  refine ⟨a, c, ?_, hV⟩
  simp only [selfT, Option.some.injEq, Prod.mk.injEq] at hv
  have hh : DataW.held v = .held (.agg #[.slice a (len (L s)) c]) := hv.1.trans e
  rw [DataW.held.inj hh] at hr; exact hr
/-- The types of names, one of them bound anew. -/
def setK (L : ByteArray → F) (s : ByteArray) (v : F) : ByteArray → F := fun t => if (s.toList == t.toList) = true then v else L t
theorem KM.mono {w : World} {S S' : Nat → Prop} {mb n : Nat} {L : ByteArray → F} (h : KM w S mb n L) (hs : ∀ b, b < w.heap.size → S b → S' b) : KM w S' mb n L := by
  obtain ⟨D, h1, h2⟩ := h
  exact ⟨D, h1, fun s => by
    obtain ⟨a, c, e, hV⟩ := h2 s
    exact ⟨a, c, e, SA_mono hV hs⟩⟩
theorem KM.put {w w' : World} {S : Nat → Prop} {mb n' : Nat} {L : ByteArray → F} {s : ByteArray} {D : DataW Value} {v : F} {a : Option Addr} {c : Nat} (hD : IsMap D) (hx : Fr mb w w') (hS : ¬ S mb)
    (h2 : ∀ s : ByteArray, ∃ a c, D.atKey (.string s.data.toList) (.held zT) = .held (.agg #[.slice a (len (L s)) c]) ∧ SA w S (L s) a) (hV : SA w S v a)
    (h : w'.ownsMap Tryd.prog 9 selfT mb n' (D.put (.string s.data.toList) (.held (.agg #[.slice a (len v) c])))) : KM w' S mb n' (setK L s v) := by
  have mv : ∀ (f : F) (a : Option Addr), SA w S f a → SA w' S f a := fun f a hf => SA_ks hf fun b hs hlt => hx.block b hlt (fun e => hS (e ▸ hs))
  refine ⟨_, h, fun t => ?_⟩
  by_cases he : (s.toList == t.toList) = true
  · have e := byte_key.2 he
    refine ⟨a, c, ?_, ?_⟩
    · rw [← e, atKey_put_same hD (k := .string s.data.toList) (by simp [WideAt.IsKeyLit]), setK, if_pos he]
    · rw [setK, if_pos he]; exact mv _ _ hV
  · obtain ⟨a', c', h3, h4⟩ := h2 t
    refine ⟨a', c', ?_, ?_⟩
    · rw [atKey_put_other (fun e => by injection e with e; exact he (byte_key.1 e.symm)), h3, setK, if_neg he]
    · rw [setK, if_neg he]; exact mv _ _ h4

set_option maxRecDepth 100000 in
/-- A name bound: an operation of an ordered list. -/
theorem wpList_bindT {w : World} {ops : Array Oper} {rest : List Oper} {o : Oper} {a : Act} {Q : Exit → Act → World → Prop} (hg : o.guard = none) (m x v : Operand) (hop : o.op = Op.mapUpdate 105 m x v)
    (S : Nat → Prop) (mb n : Nat) (L : ByteArray → F) (s : ByteArray) (hs : s.size ≤ 9223372036854775807) (hm : a.eval m = .map (some mb)) (hC : KM w S mb n L) (hS : ¬ S mb) (hn : n < 1000000) (hx : a.eval x = .string s)
    (f : F) (ad : Option Addr) (c : Nat) (hv : a.eval v = .agg #[.slice ad (len f) c]) (hV : SA w S f ad)
    (hK : ∀ w', KM w' S mb (n + 1) (setK L s f) → Fr mb w w' → wpList Tryd.prog ops Q rest (a.put o.dst undef) w') : wpList Tryd.prog ops Q (o :: rest) a w := by
  obtain ⟨D, h1, h2⟩ := hC
  have hn' : n < maxLen := by unfold maxLen; omega
  have hR : selfT (.agg #[.slice ad (len f) c]) = some (.held (.agg #[.slice ad (len f) c]), []) := rfl
  refine wpList_mapUpdate_own w hg m x v 105 hop 9 32 Tryd.keyed Tryd.underlying105 selfT mb n D hm h1 hn' (.string s) (.agg #[.slice ad (len f) c]) (.string s.data.toList) hx hv (key_string hs) _ [] hR ?_
  intro w' hown hgr
  exact hK w' (KM.put (v := f) h1.isMap (grown_fr hgr) hS h2 hV hown) (grown_fr hgr)

/-- A list of types in a row that the call owns; what is behind them lies in S or in new blocks, but not in the row's own. -/
def KR (w : World) (base : Nat) (S : Nat → Prop) (v : Value) (l : F) : Prop := ∃ cs, w.ownsRow base 32 1 v (len l) cs ∧
  ∀ j, j < len l → ∃ a' c', cs[j]? = some (.slice a' (len (kid l j)) c') ∧ SA w (fun b => (S b ∨ base ≤ b) ∧ v.ownBlock ≠ some b) (kid l j) a'
theorem KR.nil (w : World) (base : Nat) (S : Nat → Prop) : KR w base S (.slice none 0 0) .nil := ⟨[], World.ownsRow_nil _ _ _ _, fun _ hj => absurd hj (Nat.not_lt_zero _)⟩
theorem KR.ex {w w' : World} {base : Nat} {S : Nat → Prop} {v : Value} {l : F} (h : KR w base S v l) (hx : Ex w w') : KR w' base S v l := by
  obtain ⟨cs, h1, h2⟩ := h
  exact ⟨cs, owns_ex h1 hx, fun j hj => by
    obtain ⟨a', c', e2, hV⟩ := h2 j hj
    exact ⟨a', c', e2, SA_ex hV hx⟩⟩
theorem KR.own {w : World} {base : Nat} {S : Nat → Prop} {v : Value} {l : F} (h : KR w base S v l) : ∀ g, v.ownBlock = some g → base ≤ g ∧ g < w.heap.size := by
  obtain ⟨cs, h1, _⟩ := h
  exact fun g hg => h1.lt g hg
theorem KR.vs {w : World} {base : Nat} {S : Nat → Prop} {v : Value} {l : F} (h : KR w base S v l) : ∃ a c, v = .slice a (len l) c ∧ SA w (fun b => S b ∨ base ≤ b) l a := by
  obtain ⟨cs, h1, h2⟩ := h
  have hc := fun g (hg : v.ownBlock = some g) => h1.cells hg
  obtain ⟨_, ⟨rfl, h0⟩ | ⟨g, cap, cur, rfl, hb, _⟩⟩ := id h1
  · exact ⟨none, 0, by rw [h0], Or.inl h0⟩
  · refine ⟨some ⟨g, 0, none⟩, cap, rfl, SA_mk (Or.inr hb) fun i hi => ?_⟩
    obtain ⟨a', c', e2, hV⟩ := h2 i hi
    have k1 := hc g rfl _ _ e2
    rw [Go.WideShapes.add_plain] at k1
    exact ⟨a', c', k1, SA_mono hV fun b _ hs => hs.1⟩

set_option maxRecDepth 100000 in
/-- A type put behind such a list: an operation of an ordered list. -/
theorem wpList_append_type {w : World} {ops : Array Oper} {rest : List Oper} {o : Oper} {a : Act} {Q : Exit → Act → World → Prop} (hgd : o.guard = none) (s x : Operand)
    (ho : o.op = .call { callee := .builtin .append, args := #[s, x], argTypes := #[24, 24] })
    (w0 : World) (hE : Ex w0 w) (S : Nat → Prop) (base : Nat) (hb : w0.heap.size ≤ base) (hbw : base ≤ w.heap.size) (v : Value) (l : F) (hs : a.eval s = v) (hR : KR w base S v l)
    (b pc : Nat) (f : F) (ad : Option Addr) (c : Nat) (hx : a.eval x = .slice (some ⟨b, 0, none⟩) 1 pc) (hc0 : w.cell? ⟨b, 0, none⟩ = some (.slice ad (len f) c))
    (hV : SA w (fun b => (S b ∨ base ≤ b) ∧ v.ownBlock ≠ some b) f ad) (h63 : len l ≤ 100000000)
    (h : ∀ av cap w', KR w' base S (.slice av (len l + 1) cap) (snoc l 0 f) → Ex w0 w' → (∀ n, n < base → w'.heap[n]? = w.heap[n]?) → wpList Tryd.prog ops Q rest (a.put o.dst (.slice av (len l + 1) cap)) w') :
    wpList Tryd.prog ops Q (o :: rest) a w := by
  obtain ⟨cs, h1, h2⟩ := hR
  obtain ⟨i0, hi, hz0, hz1, hz2⟩ := info_parts Tryd.info32
  have hlen : cs.length = len l := by have := h1.1; omega
  refine wpList_append_lies w hgd s x 24 ho base 32 i0 _ 1 24 Tryd.underlying24 hi hz0 hz1 hz2 rfl (by omega) v (len l) cs hs h1 ⟨b, 0, none⟩ 1 pc [.slice ad (len f) c] hx rfl ?_ ?_ (by omega) (by unfold maxLen; omega) (by omega) hbw w.heap.size rfl ?_
  · intro j q hq
    match j, hq with
    | 0, hq => simp at hq; subst hq; rw [Go.WideShapes.add_plain]; exact hc0
  · simp [Value.oneCell']
  · intro g cap w' hown hgrow hat hlt
    have hr := fun k (hk : v.ownBlock = some k) => (h1.lt k hk).1
    have mv : ∀ (k : F) (a' : Option Addr), SA w (fun b => (S b ∨ base ≤ b) ∧ v.ownBlock ≠ some b) k a' → SA w' (fun b => (S b ∨ base ≤ b) ∧ (Value.slice (some ⟨g, 0, none⟩) (len l + 1) cap).ownBlock ≠ some b) k a' := by
      intro k a' hk
      have q1 := SA_mono (S' := fun b => ((S b ∨ base ≤ b) ∧ v.ownBlock ≠ some b) ∧ b < w.heap.size) hk fun b hb hs => ⟨hs, hb⟩
      refine SA_mono (SA_ks q1 fun b hs hl => hgrow.block b hl (fun e => hs.1.2 e.symm)) fun b _ hs => ⟨hs.1.1, fun e => ?_⟩
      have e' : g = b := by simpa [Value.ownBlock] using e
      rcases hat with h | h
      · exact hs.1.2 (by rw [h, e'])
      · have := hs.2; omega
    refine h (some ⟨g, 0, none⟩) cap w' ⟨_, by rw [len_snoc]; exact hown, fun j hj => ?_⟩ ⟨hgrow.os.trans hE.os, hgrow.tape.trans hE.tape, hgrow.output.trans hE.output, Nat.le_trans hE.size hgrow.size, fun k hk => (hgrow.block k (Nat.lt_of_lt_of_le hk hE.size) (fun e => by have := hr k e.symm; omega)).trans (hE.block k hk)⟩ fun n hn => hgrow.block n (by omega) (fun e => by have := hr n e.symm; omega)
    rw [len_snoc] at hj
    rw [kid_snoc]
    by_cases e : j < len l
    · rw [if_pos e]
      obtain ⟨a', c', e2, hk⟩ := h2 j e
      exact ⟨a', c', by rw [List.getElem?_append_left (by omega)]; exact e2, mv _ _ hk⟩
    · have ej : j = len l := by omega
      rw [if_neg e, if_pos ej]
      exact ⟨ad, c, by rw [List.getElem?_append_right (by omega)]; simp [hlen, ej], mv _ _ hV⟩

end Go.Proofs.YthdihpcpobhadaaDoor
