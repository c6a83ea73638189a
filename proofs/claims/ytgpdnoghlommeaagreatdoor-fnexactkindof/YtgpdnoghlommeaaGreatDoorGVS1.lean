/- Of which types terms are, without the program; a map of types in memory, and rows of types. Walks: types of terms, by the program: small ones, and the loop. Walks: whether two types are the same, by the program. -/
import Derived.Test.YtgpdnoghlommeaaGreatDoorGE1
import Derived.Test.YtgpdnoghlommeaaGreatDoorGTM2
import Derived.Deep.AppendLies
namespace Go.Proofs.YtgpdnoghlommeaaGreatDoor

open Go.RowKit Go.Deep Go.Maps Go.WideMaps

/-- Of which type something is that is made of such of these types. -/
def opT (k : Int) (p : List Int) (l : F) : Option F :=
  if k = 6 then (if fits 4 l = true then some l else none)
  else if k = 7 then partF (kid l 0) p
  else if k = 8 then (match partF (kid l 0) p with | some g => if eqT g (kid l 1) = true then some (kid l 0) else none | none => none)
  else if len (kid l 0) = 0 ∧ len (kid l 1) = 0 then some .nil else none
/-- .. a term, told those of its own list. -/
def oneT (L : ByteArray → F) (k : Int) (s : ByteArray) (p : List Int) : Option F → Option F
  | none => none
  | some l => if k = 1 then some .nil else if k = 2 then some (L s) else opT k p l
/-- .. terms. -/
def evT (L : ByteArray → F) : TM → Option F
  | .nil => some .nil
  | .node _ _ (k, _, s, p) f r => (oneT L k s p (evT L f)).bind fun v => (evT L r).bind fun l => some (.node 0 0 0 v l)
/-- .. a term of a list. -/
def evTAt (L : ByteArray → F) (f : TM) (i : Nat) : Option F := oneT L (tkind f i) (tname f i) (tpath f i) (evT L (tkid f i))
/-- .. the first terms of a list. -/
def evTP (L : ByteArray → F) (f : TM) : Nat → Option F
  | 0 => some .nil
  | j + 1 => (evTP L f j).bind fun l => (evTAt L f j).bind fun v => some (snoc l 0 v)

theorem evTP_node (L : ByteArray → F) (x y : Nat) (d : Int × Int × ByteArray × List Int) (f r : TM) : ∀ j, evTP L (.node x y d f r) (j + 1) = (evTAt L (.node x y d f r) 0).bind fun v => (evTP L r j).bind fun l => some (.node 0 0 0 v l)
  | 0 => by
    obtain ⟨k, n, s, p⟩ := d
    simp only [evTP, Option.bind_some]
    cases evTAt L (.node x y (k, n, s, p) f r) 0 <;> rfl
  | j + 1 => by
    obtain ⟨k, n, s, p⟩ := d
    rw [evTP, evTP_node L x y (k, n, s, p) f r j, evTP]
    cases h1 : evTAt L (.node x y (k, n, s, p) f r) 0 with
    | none => rfl
    | some v =>
      simp only [Option.bind_some]
      cases h2 : evTP L r j with
      | none => rfl
      | some l =>
        simp only [Option.bind_some]
        have e : evTAt L (.node x y (k, n, s, p) f r) (j + 1) = evTAt L r j := rfl
        rw [e]
        cases evTAt L r j <;> rfl
theorem evTP_all (L : ByteArray → F) : ∀ f : TM, evTP L f (tlen f) = evT L f
  | .nil => rfl
  | .node x y (k, n, s, p) f r => by
    have e : tlen (.node x y (k, n, s, p) f r : TM) = tlen r + 1 := rfl
    rw [e, evTP_node, evTP_all L r]
    rfl
theorem evTP_none {L : ByteArray → F} {f : TM} {j : Nat} (h : evTP L f j = none) : ∀ i, j ≤ i → evTP L f i = none := by
  intro i hi
  induction i with
  | zero => have : j = 0 := by omega
            rw [this] at h; exact h
  | succ i ih =>
    by_cases e : j = i + 1
    · rw [← e]; exact h
    · rw [evTP, ih (by omega)]; rfl
theorem evT_none {L : ByteArray → F} {f : TM} {j : Nat} (hj : j < tlen f) (h : evTAt L f j = none) : evT L f = none := by
  rw [← evTP_all]
  refine evTP_none (j := j + 1) ?_ _ hj
  rw [evTP]
  cases evTP L f j with
  | none => rfl
  | some l => simp only [Option.bind_some]; rw [h]; rfl
theorem evTP_snoc {L : ByteArray → F} {f : TM} {j : Nat} {l v : F} (h : evTP L f j = some l) (hv : evTAt L f j = some v) : evTP L f (j + 1) = some (snoc l 0 v) := by
  rw [evTP, h, Option.bind_some, hv]; rfl
theorem evT_len {L : ByteArray → F} : ∀ {f : TM} {l : F}, evT L f = some l → len l = tlen f
  | .nil, l, h => by cases h; rfl
  | .node x y (k, n, s, p) f r, l, h => by
    rw [evT] at h
    cases h1 : oneT L k s p (evT L f) with
    | none => rw [h1] at h; cases h
    | some v =>
      rw [h1] at h
      simp only [Option.bind_some] at h
      cases h2 : evT L r with
      | none => rw [h2] at h; cases h
      | some q =>
        rw [h2] at h; cases h
        show len q + 1 = tlen r + 1
        rw [evT_len h2]
/-- .. each of a list that is told. -/
theorem evT_at {L : ByteArray → F} {f : TM} {l : F} (h : evT L f = some l) {j : Nat} (hj : j < tlen f) : evTAt L f j = some (kid l j) := by
  rw [← evTP_all] at h
  have key : ∀ n, n ≤ tlen f → ∀ l, evTP L f n = some l → len l = n ∧ ∀ j, j < n → evTAt L f j = some (kid l j) := by
    intro n
    induction n with
    | zero => intro _ l hl; cases hl; exact ⟨rfl, fun j hj => absurd hj (Nat.not_lt_zero _)⟩
    | succ n ih =>
      intro hn l hl
      rw [evTP] at hl
      cases h1 : evTP L f n with
      | none => rw [h1] at hl; cases hl
      | some q =>
        rw [h1, Option.bind_some] at hl
        cases h2 : evTAt L f n with
        | none => rw [h2] at hl; cases hl
        | some v =>
          rw [h2] at hl; cases hl
          obtain ⟨e, hk⟩ := ih (by omega) q h1
          refine ⟨by rw [len_snoc, e], fun j hj => ?_⟩
          rw [kid_snoc]
          by_cases hlt : j < n
          · rw [if_pos (by omega)]; exact hk j hlt
          · have : j = n := by omega
            rw [if_neg (by omega), if_pos (by omega), this]; exact h2
  exact (key _ (Nat.le_refl _) l h).2 j hj

theorem SA_ex {w w' : World} {S : Nat → Prop} {f : F} {a : Option Addr} (h : SA w S f a) (hx : Ex w w') : SA w' S f a := SA_ks h fun b _ hlt => hx.block b hlt

/-- A type that is told, or the fault that there is none. What is told lies in blocks of S, or in new ones. -/
def TyP (eb : Addr) (S : Nat → Prop) (R : Option F) (w : World) (e : Ending) (w' : World) : Prop :=
  ∃ a' c', e = .returned (.tuple #[.agg #[.slice a' (len (R.getD .nil)) c'], errV eb R.isSome]) ∧ SA w' (fun b => S b ∨ w.heap.size ≤ b) (R.getD .nil) a' ∧ Ex w w'
/-- .. types. -/
def TysP (eb : Addr) (S : Nat → Prop) (R : Option F) (w : World) (e : Ending) (w' : World) : Prop :=
  ∃ a' c', e = .returned (.tuple #[.slice a' (len (R.getD .nil)) c', errV eb R.isSome]) ∧ SA w' (fun b => S b ∨ w.heap.size ≤ b) (R.getD .nil) a' ∧ Ex w w'

/-- How an element of the map reads: as itself. -/
def selfT : Value → Option (DataW Value × List MemPlace) := fun v => some (.held v, [])
abbrev zT : Value := .agg #[.slice none 0 0]

/-- A block is a map that holds of each name its type. -/
def KM (w : World) (S : Nat → Prop) (mb n : Nat) (L : ByteArray → F) : Prop := ∃ D : DataW Value, w.ownsMap Tryz.prog 9 selfT mb n D ∧
  ∀ s : ByteArray, ∃ a c, D.atKey (.string s.data.toList) (.held zT) = .held (.agg #[.slice a (len (L s)) c]) ∧ SA w S (L s) a
theorem KM_made (w : World) (S : Nat → Prop) : KM (w.alloc (.map #[] 0)) S w.heap.size 0 fun _ => .nil := ⟨_, World.ownsMap_made w _ _ _, fun _ => ⟨none, 0, rfl, Or.inl rfl⟩⟩
theorem KM.lt {w : World} {S : Nat → Prop} {mb n : Nat} {L : ByteArray → F} (h : KM w S mb n L) : mb < w.heap.size := by
  obtain ⟨D, h1, _⟩ := h
  exact h1.lt
theorem KM.ex {w w' : World} {S : Nat → Prop} {mb n : Nat} {L : ByteArray → F} (h : KM w S mb n L) (hx : Ex w w') : KM w' S mb n L := by
  have hl := h.lt
  obtain ⟨D, ⟨es, cl, h1, h2⟩, h3⟩ := h
  exact ⟨D, ⟨es, cl, (hx.block mb hl).trans h1, h2⟩, fun s => by
    obtain ⟨a, c, e, hV⟩ := h3 s
    exact ⟨a, c, e, SA_ex hV hx⟩⟩
theorem Tryz.zeroType (w : World) : (zeroValue 55).run Tryz.prog w = .ok zT w := by kernel_rfl
/-- A name asked for. -/
theorem KM.look {w : World} {S : Nat → Prop} {mb n : Nat} {L : ByteArray → F} (h : KM w S mb n L) {s : ByteArray} (hs : s.size ≤ 9223372036854775807) :
    ∃ a c, (Instr.lookup 111 (.map (some mb)) (.string s) false).run Tryz.prog w = .ok (.agg #[.slice a (len (L s)) c]) w ∧ SA w S (L s) a := by
  obtain ⟨D, h1, h2⟩ := h
  obtain ⟨a, c, e, hV⟩ := h2 s
  obtain ⟨v, ps, hr, hv⟩ := h1.lookup Tryz.keyed Tryz.underlying111 (Tryz.zeroType _) (zd := .held zT) (zp := []) rfl (key_string hs)
  refine ⟨a, c, ?_, hV⟩
  simp only [selfT, Option.some.injEq, Prod.mk.injEq] at hv
  have hh : DataW.held v = .held (.agg #[.slice a (len (L s)) c]) := hv.1.trans e
  rw [DataW.held.inj hh] at hr; exact hr
/-- The types of names, one of them bound anew. -/
def setK (L : ByteArray → F) (s : ByteArray) (v : F) : ByteArray → F := fun t => if (s.toList == t.toList) = true then v else L t
theorem KM.mono {w : World} {S S' : Nat → Prop} {mb n : Nat} {L : ByteArray → F} (h : KM w S mb n L) (hs : ∀ b, b < w.heap.size → S b → S' b) : KM w S' mb n L := by
  obtain ⟨D, h1, h2⟩ := h
  exact ⟨D, h1, fun s => by
    obtain ⟨a, c, e, hV⟩ := h2 s
    exact ⟨a, c, e, SA_mono hV hs⟩⟩
theorem KM.put {w w' : World} {S : Nat → Prop} {mb n' : Nat} {L : ByteArray → F} {s : ByteArray} {D : DataW Value} {v : F} {a : Option Addr} {c : Nat} (hD : IsMap D) (hx : Fr mb w w') (hS : ¬ S mb)
    (h2 : ∀ s : ByteArray, ∃ a c, D.atKey (.string s.data.toList) (.held zT) = .held (.agg #[.slice a (len (L s)) c]) ∧ SA w S (L s) a) (hV : SA w S v a)
    (h : w'.ownsMap Tryz.prog 9 selfT mb n' (D.put (.string s.data.toList) (.held (.agg #[.slice a (len v) c])))) : KM w' S mb n' (setK L s v) := by
  have mv : ∀ (f : F) (a : Option Addr), SA w S f a → SA w' S f a := fun f a hf => SA_ks hf fun b hs hlt => hx.block b hlt (fun e => hS (e ▸ hs))
  refine ⟨_, h, fun t => ?_⟩
  by_cases he : (s.toList == t.toList) = true
  · have e := byte_key.2 he
    refine ⟨a, c, ?_, ?_⟩
    · rw [← e, atKey_put_same hD (k := .string s.data.toList) (by simp [WideAt.IsKeyLit]), setK, if_pos he]
    · rw [setK, if_pos he]; exact mv _ _ hV
  · obtain ⟨a', c', h3, h4⟩ := h2 t
    refine ⟨a', c', ?_, ?_⟩
    · rw [atKey_put_other (fun e => by injection e with e; exact he (byte_key.1 e.symm)), h3, setK, if_neg he]
    · rw [setK, if_neg he]; exact mv _ _ h4

set_option maxRecDepth 100000 in
/-- A name bound: an operation of an ordered list. -/
theorem wpList_bindT {w : World} {ops : Array Oper} {rest : List Oper} {o : Oper} {a : Act} {Q : Exit → Act → World → Prop} (hg : o.guard = none) (m x v : Operand) (hop : o.op = Op.mapUpdate 111 m x v)
    (S : Nat → Prop) (mb n : Nat) (L : ByteArray → F) (s : ByteArray) (hs : s.size ≤ 9223372036854775807) (hm : a.eval m = .map (some mb)) (hC : KM w S mb n L) (hS : ¬ S mb) (hn : n < 1000000) (hx : a.eval x = .string s)
    (f : F) (ad : Option Addr) (c : Nat) (hv : a.eval v = .agg #[.slice ad (len f) c]) (hV : SA w S f ad)
    (hK : ∀ w', KM w' S mb (n + 1) (setK L s f) → Fr mb w w' → wpList Tryz.prog ops Q rest (a.put o.dst undef) w') : wpList Tryz.prog ops Q (o :: rest) a w := by
  obtain ⟨D, h1, h2⟩ := hC
  have hn' : n < maxLen := by unfold maxLen; omega
  have hR : selfT (.agg #[.slice ad (len f) c]) = some (.held (.agg #[.slice ad (len f) c]), []) := rfl
  refine wpList_mapUpdate_own w hg m x v 111 hop 9 55 Tryz.keyed Tryz.underlying111 selfT mb n D hm h1 hn' (.string s) (.agg #[.slice ad (len f) c]) (.string s.data.toList) hx hv (key_string hs) _ [] hR ?_
  intro w' hown hgr
  exact hK w' (KM.put (v := f) h1.isMap (grown_fr hgr) hS h2 hV hown) (grown_fr hgr)

/-- A list of types in a row that the call owns; what is behind them lies in S or in new blocks, but not in the row's own. -/
def KR (w : World) (base : Nat) (S : Nat → Prop) (v : Value) (l : F) : Prop := ∃ cs, w.ownsRow base 55 1 v (len l) cs ∧
  ∀ j, j < len l → ∃ a' c', cs[j]? = some (.slice a' (len (kid l j)) c') ∧ SA w (fun b => (S b ∨ base ≤ b) ∧ v.ownBlock ≠ some b) (kid l j) a'
theorem KR.nil (w : World) (base : Nat) (S : Nat → Prop) : KR w base S (.slice none 0 0) .nil := ⟨[], World.ownsRow_nil _ _ _ _, fun _ hj => absurd hj (Nat.not_lt_zero _)⟩
theorem KR.ex {w w' : World} {base : Nat} {S : Nat → Prop} {v : Value} {l : F} (h : KR w base S v l) (hx : Ex w w') : KR w' base S v l := by
  obtain ⟨cs, h1, h2⟩ := h
  exact ⟨cs, owns_ex h1 hx, fun j hj => by
    obtain ⟨a', c', e2, hV⟩ := h2 j hj
    exact ⟨a', c', e2, SA_ex hV hx⟩⟩
theorem KR.own {w : World} {base : Nat} {S : Nat → Prop} {v : Value} {l : F} (h : KR w base S v l) : ∀ g, v.ownBlock = some g → base ≤ g ∧ g < w.heap.size := by
  obtain ⟨cs, h1, _⟩ := h
  exact fun g hg => h1.lt g hg
theorem KR.vs {w : World} {base : Nat} {S : Nat → Prop} {v : Value} {l : F} (h : KR w base S v l) : ∃ a c, v = .slice a (len l) c ∧ SA w (fun b => S b ∨ base ≤ b) l a := by
  obtain ⟨cs, h1, h2⟩ := h
  have hc := fun g (hg : v.ownBlock = some g) => h1.cells hg
  obtain ⟨_, ⟨rfl, h0⟩ | ⟨g, cap, cur, rfl, hb, _⟩⟩ := id h1
  · exact ⟨none, 0, by rw [h0], Or.inl h0⟩
  · refine ⟨some ⟨g, 0, none⟩, cap, rfl, SA_mk (Or.inr hb) fun i hi => ?_⟩
    obtain ⟨a', c', e2, hV⟩ := h2 i hi
    have k1 := hc g rfl _ _ e2
    rw [Go.WideShapes.add_plain] at k1
    exact ⟨a', c', k1, SA_mono hV fun b _ hs => hs.1⟩

set_option maxRecDepth 100000 in
/-- A type put behind such a list: an operation of an ordered list. -/
theorem wpList_append_type {w : World} {ops : Array Oper} {rest : List Oper} {o : Oper} {a : Act} {Q : Exit → Act → World → Prop} (hgd : o.guard = none) (s x : Operand)
    (ho : o.op = .call { callee := .builtin .append, args := #[s, x], argTypes := #[26, 26] })
    (w0 : World) (hE : Ex w0 w) (S : Nat → Prop) (base : Nat) (hb : w0.heap.size ≤ base) (hbw : base ≤ w.heap.size) (v : Value) (l : F) (hs : a.eval s = v) (hR : KR w base S v l)
    (b pc : Nat) (f : F) (ad : Option Addr) (c : Nat) (hx : a.eval x = .slice (some ⟨b, 0, none⟩) 1 pc) (hc0 : w.cell? ⟨b, 0, none⟩ = some (.slice ad (len f) c))
    (hV : SA w (fun b => (S b ∨ base ≤ b) ∧ v.ownBlock ≠ some b) f ad) (h63 : len l ≤ 100000000)
    (h : ∀ av cap w', KR w' base S (.slice av (len l + 1) cap) (snoc l 0 f) → Ex w0 w' → (∀ n, n < base → w'.heap[n]? = w.heap[n]?) → wpList Tryz.prog ops Q rest (a.put o.dst (.slice av (len l + 1) cap)) w') :
    wpList Tryz.prog ops Q (o :: rest) a w := by
  obtain ⟨cs, h1, h2⟩ := hR
  obtain ⟨i0, hi, hz0, hz1, hz2⟩ := info_parts Tryz.info55
  have hlen : cs.length = len l := by have := h1.1; omega
  refine wpList_append_lies w hgd s x 26 ho base 55 i0 _ 1 24 Tryz.underlying26 hi hz0 hz1 hz2 rfl (by omega) v (len l) cs hs h1 ⟨b, 0, none⟩ 1 pc [.slice ad (len f) c] hx rfl ?_ ?_ (by omega) (by unfold maxLen; omega) (by omega) hbw w.heap.size rfl ?_
  · intro j q hq
    match j, hq with
    | 0, hq => simp at hq; subst hq; rw [Go.WideShapes.add_plain]; exact hc0
  · simp [Value.oneCell']
  · intro g cap w' hown hgrow hat hlt
    have hr := fun k (hk : v.ownBlock = some k) => (h1.lt k hk).1
    have mv : ∀ (k : F) (a' : Option Addr), SA w (fun b => (S b ∨ base ≤ b) ∧ v.ownBlock ≠ some b) k a' → SA w' (fun b => (S b ∨ base ≤ b) ∧ (Value.slice (some ⟨g, 0, none⟩) (len l + 1) cap).ownBlock ≠ some b) k a' := by
      intro k a' hk
      have q1 := SA_mono (S' := fun b => ((S b ∨ base ≤ b) ∧ v.ownBlock ≠ some b) ∧ b < w.heap.size) hk fun b hb hs => ⟨hs, hb⟩
      refine SA_mono (SA_ks q1 fun b hs hl => hgrow.block b hl (fun e => hs.1.2 e.symm)) fun b _ hs => ⟨hs.1.1, fun e => ?_⟩
      have e' : g = b := by simpa [Value.ownBlock] using e
      rcases hat with h | h
      · exact hs.1.2 (by rw [h, e'])
      · have := hs.2; omega
    refine h (some ⟨g, 0, none⟩) cap w' ⟨_, by rw [len_snoc]; exact hown, fun j hj => ?_⟩ ⟨hgrow.os.trans hE.os, hgrow.tape.trans hE.tape, hgrow.output.trans hE.output, Nat.le_trans hE.size hgrow.size, fun k hk => (hgrow.block k (Nat.lt_of_lt_of_le hk hE.size) (fun e => by have := hr k e.symm; omega)).trans (hE.block k hk)⟩ fun n hn => hgrow.block n (by omega) (fun e => by have := hr n e.symm; omega)
    rw [len_snoc] at hj
    rw [kid_snoc]
    by_cases e : j < len l
    · rw [if_pos e]
      obtain ⟨a', c', e2, hk⟩ := h2 j e
      exact ⟨a', c', by rw [List.getElem?_append_left (by omega)]; exact e2, mv _ _ hk⟩
    · have ej : j = len l := by omega
      rw [if_neg e, if_pos ej]
      exact ⟨ad, c, by rw [List.getElem?_append_right (by omega)]; simp [hlen, ej], mv _ _ hV⟩

end Go.Proofs.YtgpdnoghlommeaaGreatDoor

namespace Go.Proofs.YtgpdnoghlommeaaGreatDoor

open Go.RowKit Go.Deep Go.Maps Go.WideMaps

attribute [local go_sem ↓] Go.wp_at_zero Go.wp_at_succ

set_option maxRecDepth 100000 in
set_option maxHeartbeats 2000000 in
theorem isNumberType_any (f : F) (a : Option Addr) (c : Nat) (z : Bool) (hz : (((len f : Nat) : Int) == 0) = z) (w : World) :
    Calls Tryz.prog 148 #[.agg #[.slice a (len f) c]] w fun e w' => e = .returned (.bool z) ∧ Ex w w' := by
  go_enter Tryz.func148, Tryz.ntmps148
  go_wp2_with fail
  go_ret
  exact ⟨rfl, Ex.new _ _⟩

/-- A type, if it is so. -/
def ifT (ok : Bool) (f : F) : Option F := if ok then some f else none

set_option maxRecDepth 100000 in
set_option maxHeartbeats 2000000 in
theorem typeIf_any (eb : Addr) (S : Nat → Prop) (f : F) (a : Option Addr) (c : Nat) (ok : Bool) (w : World) (hG : w.cell? ⟨1, 0, none⟩ = some (EV eb)) (hV : SA w S f a) :
    Calls Tryz.prog 151 #[.agg #[.slice a (len f) c], .bool ok] w (TyP eb S (ifT ok f) w) := by
  have V : Hid (∀ w', Ex w w' → SA w' S f a) := fun _ h => SA_ex hV h
  have g1 : ((w.alloc (.cells #[.slice a (len f) c] 55)).alloc (.cells #[.slice none 0 0] 55)).cell? ⟨1, 0, none⟩ = some (EV eb) := ((Ex.new _ _).alloc _).at hG
  have N : Hid (Ex w ((w.alloc (.cells #[.slice a (len f) c] 55)).alloc (.cells #[.slice none 0 0] 55))) := (Ex.new _ _).alloc _
  have zg : 1 < w.heap.size := World.block_lt_of_cell? _ _ hG
  clear hV hG
  cases ok with
  | false =>
    go_enter Tryz.func151, Tryz.ntmps151
    go_wp2_with fail
    go_region
    all_goals
      go_wp2_with fail
      refine bodyPost_ret (v := .tuple #[.agg #[.slice none 0 0], EV eb]) (by simp [results, Tryz.results151, go_sem]) rfl ⟨none, 0, rfl, Or.inl rfl, ?_⟩
      first | exact N.out.drew.set (by show w.heap.size ≤ w.heap.size + 1; omega) _ | exact (N.out.set (by show w.heap.size ≤ w.heap.size + 1; omega) _).drew | exact N.out.drew | exact N.out | exact N.out.set (by show w.heap.size ≤ w.heap.size + 1; omega) _ | exact ((Ex.new _ _).drew.alloc _) | exact ((Ex.new _ _).alloc _).drew | exact ((Ex.new _ _).alloc _)
  | true =>
    go_enter Tryz.func151, Tryz.ntmps151
    go_wp2_with fail
    refine bodyPost_ret (v := .tuple #[.agg #[.slice a (len f) c], .nilIface]) (by simp [results, Tryz.results151, go_sem]) rfl ⟨a, c, rfl, ?_, ?_⟩
    · exact SA_mono (V.out _ ((Ex.new _ _).alloc _)) fun b _ hb => Or.inl hb
    · exact (Ex.new _ _).alloc _

set_option maxRecDepth 100000 in
set_option maxHeartbeats 4000000 in
theorem keach_by (eb : Addr) (S : Nat → Prop) (L : ByteArray → F) (la : Option Addr) (ll lc : Nat) (tm : Option Nat) (mb : Nat) (f : TM) (a : Option Addr) (c : Nat) (w : World) (hM : MA w 0 f a) (hl : tlen f ≤ 100000000) (hS : ∀ b, S b → b < w.heap.size)
    (hK : ∀ j, j < tlen f → ∀ (pa : Option Addr) (pc : Nat) (a' : Option Addr) (c' : Nat) (w' : World), Ex w w' → PA w' 0 (tpath f j) pa → (tpath f j).length ≤ pc ∧ pc ≤ 9223372036854775807 → MA w' 0 (tkid f j) a' → Calls Tryz.prog 141 #[.agg #[.slice la ll lc, .map tm, .map (some mb)], .agg #[.int .i64 (tkind f j), .int .i64 (tnum f j), .string (tname f j), .slice pa (tpath f j).length pc, .slice a' (tlen (tkid f j)) c']] w' (TyP eb S (evTAt L f j) w')) :
    Calls Tryz.prog 140 #[.slice a (tlen f) c, .func (.func 141) #[.agg #[.slice la ll lc, .map tm, .map (some mb)]] #[]] w (TysP eb S (evT L f) w) := by
  have M : Hid (∀ w', Ex w w' → MA w' 0 f a) := fun _ h => MA_below hM h
  have I : Hid _ := hK
  have HS : Hid (∀ b, S b → b < w.heap.size) := hS
  have HLN : Hid (tlen f ≤ 100000000) := hl
  clear hM hK hS
  obtain ⟨R, hR⟩ : ∃ R, R = evT L f := ⟨_, rfl⟩
  have RR : Hid (R = evT L f) := hR
  rw [← hR]
  clear hR
  go_enter Tryz.func140, Tryz.ntmps140
  go_wp2_with fail
  go_loopw [6, 8, 9, 10, 13] (fun ov _ _ _ i wr => ∃ (j : Nat) (l : F), j ≤ tlen f ∧ i = .int .i64 j ∧ evTP L f j = some l ∧ len l = j ∧ KR wr w.heap.size S ov l ∧ Ex w wr) (fun _ _ _ _ i _ => tlen f - (intOf i).toNat)
  case atStart => exact ⟨0, .nil, by omega, rfl, rfl, rfl, KR.nil _ _ _, Ex.refl _⟩
  case round =>
    obtain ⟨j, l, hj, rfl, hev, hlen, hvr, hx⟩ := hrel
    have EVP : Hid (evTP L f j = some l) := hev
    have LJ : Hid (len l = j) := hlen
    have E : Hid (Ex w wr) := hx
    obtain ⟨av, ac, rfl, hvs⟩ := hvr.vs
    have VV : Hid (SA wr (fun b => S b ∨ w.heap.size ≤ b) l av) := hvs
    have O : Hid (KR wr w.heap.size S (.slice av (len l) ac) l) := hvr
    clear hx hev hvr hlen hvs
    by_cases hlt : j < tlen f
    · obtain ⟨b, o, rfl, _, hbs, hk⟩ := MA_at (M.out wr E.out) (by omega)
      obtain ⟨e0, e1, e2, ⟨pa, pc, e3, hp'⟩, a', c', e4, hm'⟩ := hk j hlt
      have HI : Hid (∀ w', Ex wr w' → Calls Tryz.prog 141 #[.agg #[.slice la ll lc, .map tm, .map (some mb)], .agg #[.int .i64 (tkind f j), .int .i64 (tnum f j), .string (tname f j), .slice pa (tpath f j).length pc, .slice a' (tlen (tkid f j)) c']] w' (TyP eb S (evTAt L f j) w')) := fun w' h => I.out j hlt pa pc a' c' w' (E.out.trans h) (PA_below (PS_pa.1 hp'.1) h) hp'.2 (MA_below hm' h)
      have V : Hid (evTAt L f j = none → R = none) := fun h => RR.out.trans (evT_none hlt h)
      clear hk hp' hm'
      go_wp2_with fail
      refine Calls.mono (HI.out _ (Ex.new _ _)) ?_
      rintro e w1 ⟨a1, c1', rfl, hV1, hb1⟩
      have E1 : Hid (Ex wr w1) := (Ex.new _ _).trans hb1
      have X1 : Hid (Ex w w1) := E.out.trans E1.out
      clear hb1 HI
      cases hkb : evTAt L f j with
      | none =>
        have HR : Hid (R = none) := V.out hkb
        clear hkb hV1
        simp only [Option.getD_none, Option.isSome_none, errV, Bool.false_eq_true, if_false]
        go_wp2_with fail
        exact bodyPost_ret (v := .tuple #[.slice none 0 0, EV eb]) (by simp [results, Tryz.results140, go_sem]) rfl ⟨none, 0, by rw [HR.out]; rfl, by rw [HR.out]; exact Or.inl rfl, X1.out.trans (Ex.new _ _)⟩
      | some g =>
        rw [hkb] at hV1
        simp only [Option.getD_some] at hV1
        have V1 : Hid (SA w1 (fun b => S b ∨ (wr.alloc (.cells #[.int .i64 (tkind f j), .int .i64 (tnum f j), .string (tname f j), .slice pa (tpath f j).length pc, .slice a' (tlen (tkid f j)) c'] 90)).heap.size ≤ b) g a1) := hV1
        have EV1 : Hid (evTAt L f j = some g) := hkb
        clear hkb hV1
        simp only [Option.getD_some, Option.isSome_some, errV, if_true]
        have E2 : Hid (Ex w ((w1.alloc (.cells #[.slice a1 (len g) c1'] 55)).alloc (.cells #[.slice a1 (len g) c1'] 55))) := (X1.out.alloc _).alloc _
        have O3 : Hid (KR ((w1.alloc (.cells #[.slice a1 (len g) c1'] 55)).alloc (.cells #[.slice a1 (len g) c1'] 55)) w.heap.size S (.slice av (len l) ac) l) := KR.ex O.out ((E1.out.alloc _).alloc _)
        have C20 : Hid (((w1.alloc (.cells #[.slice a1 (len g) c1'] 55)).alloc (.cells #[.slice a1 (len g) c1'] 55)).cell? ⟨w1.heap.size + 1, 0, none⟩ = some (.slice a1 (len g) c1')) := by show _ = _; simp
        have V3 : Hid (SA ((w1.alloc (.cells #[.slice a1 (len g) c1'] 55)).alloc (.cells #[.slice a1 (len g) c1'] 55)) (fun b => (S b ∨ w.heap.size ≤ b) ∧ (Value.slice av (len l) ac).ownBlock ≠ some b) g a1) := SA_mono (SA_ex V1.out ((Ex.new _ _).alloc _)) fun b _ hb => by
          have ho := KR.own O.out
          have hz := E.out.size
          rcases hb with hb | hb
          · exact ⟨Or.inl hb, fun e => by have := (ho b e).1; have := HS.out b hb; omega⟩
          · rw [World.size_alloc] at hb
            exact ⟨Or.inr (by omega), fun e => by have := (ho b e).2; omega⟩
        have j6 : len l ≤ 100000000 := by have := LJ.out; omega
        have EV2 : Hid (evTP L f (j + 1) = some (snoc l 0 g)) := evTP_snoc EVP.out EV1.out
        clear O E V1 EV1 EVP VV
        go_wp2_with (at_builtin; refine wpList_append_type rfl _ _ rfl w E2.out S w.heap.size (Nat.le_refl _) E2.out.size (.slice av (len l) ac) l rfl O3.out (w1.heap.size + 1) 1 g a1 c1' rfl C20.out V3.out j6 ?_)
        intro av3 ac3 w3 hown3 hx3 _
        have O4 : Hid (KR w3 w.heap.size S (.slice av3 (len l + 1) ac3) (snoc l 0 g)) := hown3
        have E3 : Hid (Ex w w3) := hx3
        clear hown3 hx3 O3 E2 C20 V3
        go_wp2_with fail
        go_roundw
        case rel => exact ⟨j + 1, _, by omega, by go_num, EV2.out, by rw [len_snoc, LJ.out], O4.out, E3.out⟩
        case measure => simp [intOf]; omega
    · have hje : j = tlen f := by omega
      have HR : Hid (R = some l) := by
        show _ = _
        rw [RR.out, ← evTP_all, ← hje]; exact EVP.out
      go_wp2_with fail
      exact bodyPost_ret (v := .tuple #[.slice av (len l) ac, .nilIface]) (by simp [results, Tryz.results140, go_sem]) rfl ⟨av, ac, by rw [HR.out]; rfl, by rw [HR.out]; exact VV.out, E.out⟩

set_option maxRecDepth 100000 in
set_option maxHeartbeats 2000000 in
theorem kterms_by (eb : Addr) (S : Nat → Prop) (L : ByteArray → F) (la : Option Addr) (ll lc : Nat) (tm : Option Nat) (mb : Nat) (f : TM) (a : Option Addr) (c : Nat) (w : World) (hM : MA w 0 f a) (hl : tlen f ≤ 100000000) (hS : ∀ b, S b → b < w.heap.size)
    (hK : ∀ j, j < tlen f → ∀ (pa : Option Addr) (pc : Nat) (a' : Option Addr) (c' : Nat) (w' : World), Ex w w' → PA w' 0 (tpath f j) pa → (tpath f j).length ≤ pc ∧ pc ≤ 9223372036854775807 → MA w' 0 (tkid f j) a' → Calls Tryz.prog 141 #[.agg #[.slice la ll lc, .map tm, .map (some mb)], .agg #[.int .i64 (tkind f j), .int .i64 (tnum f j), .string (tname f j), .slice pa (tpath f j).length pc, .slice a' (tlen (tkid f j)) c']] w' (TyP eb S (evTAt L f j) w')) :
    Calls Tryz.prog 118 #[.agg #[.slice la ll lc, .map tm, .map (some mb)], .slice a (tlen f) c] w (TysP eb S (evT L f) w) := by
  have N : Hid (Ex w (w.alloc (.cells #[.slice la ll lc, .map tm, .map (some mb)] 113))) := Ex.new _ _
  have K : Hid (Calls Tryz.prog 140 #[.slice a (tlen f) c, .func (.func 141) #[.agg #[.slice la ll lc, .map tm, .map (some mb)]] #[]] (w.alloc (.cells #[.slice la ll lc, .map tm, .map (some mb)] 113)) (TysP eb S (evT L f) (w.alloc (.cells #[.slice la ll lc, .map tm, .map (some mb)] 113)))) := keach_by eb S L la ll lc tm mb f a c _ (MA_below hM (Ex.new _ _)) hl (fun b hb => Nat.lt_of_lt_of_le (hS b hb) (Ex.new _ _).size) fun j hj pa pc a' c' w' hx => hK j hj pa pc a' c' w' (N.out.trans hx)
  have h0 : (w.alloc (.cells #[.slice la ll lc, .map tm, .map (some mb)] 113)).cell? ⟨w.heap.size, 0, none⟩ = some (.slice la ll lc) := by simp
  have h1 : (w.alloc (.cells #[.slice la ll lc, .map tm, .map (some mb)] 113)).cell? ⟨w.heap.size, 1, none⟩ = some (.map tm) := by simp
  have h2 : (w.alloc (.cells #[.slice la ll lc, .map tm, .map (some mb)] 113)).cell? ⟨w.heap.size, 2, none⟩ = some (.map (some mb)) := by simp
  clear hM hK hS
  obtain ⟨R, hR⟩ : ∃ R, R = evT L f := ⟨_, rfl⟩
  rw [← hR] at K ⊢
  clear hR
  go_enter Tryz.func118, Tryz.ntmps118
  go_wp2_with fail
  refine Calls.mono K.out ?_
  rintro e w1 ⟨a1, c1', rfl, hV1, hb1⟩
  have V1 : Hid _ := hV1
  have X1 : Hid (Ex (w.alloc (.cells #[.slice la ll lc, .map tm, .map (some mb)] 113)) w1) := hb1
  clear hV1 hb1 h0 h1 h2
  go_wp2_with fail
  refine bodyPost_ret (v := .tuple #[.slice a1 (len (R.getD .nil)) c1', errV eb R.isSome]) (by simp [results, Tryz.results118, go_sem]) rfl ⟨a1, c1', rfl, ?_, N.out.trans X1.out⟩
  refine SA_mono V1.out fun b _ hb => ?_
  rcases hb with hb | hb
  · exact Or.inl hb
  · have := N.out.size; exact Or.inr (by omega)

end Go.Proofs.YtgpdnoghlommeaaGreatDoor

namespace Go.Proofs.YtgpdnoghlommeaaGreatDoor

open Go.RowKit Go.Deep

attribute [local go_sem ↓] Go.wp_at_zero Go.wp_at_succ

theorem eqT_two {f g : F} (hf : len f = 2) (hg : len g = 2) : eqT f g = (eqT (kid f 0) (kid g 0) && eqT (kid f 1) (kid g 1)) := by
  cases h0 : eqT (kid f 0) (kid g 0)
  · rw [eqT_bad f g 0 (by omega) h0]; rfl
  · cases h1 : eqT (kid f 1) (kid g 1)
    · rw [eqT_bad f g 1 (by omega) h1]; rfl
    · refine eqT_good f g (by omega) fun i hi => ?_
      have : i = 0 ∨ i = 1 := by omega
      rcases this with rfl | rfl
      · exact h0
      · exact h1

theorem eqT_zero {f g : F} (hf : len f = 0) (hg : len g = 0) : eqT f g = true := eqT_good f g (by omega) fun i hi => by omega

set_option linter.unusedSimpArgs false in
set_option maxRecDepth 100000 in
set_option maxHeartbeats 2000000 in
theorem typeSame_any : ∀ (r : Nat) (f g : F) (a a' : Option Addr) (c c' lo lo' : Nat) (w : World), fits r f = true → fits r g = true → TA w lo f a → TA w lo' g a' →
    Calls Tryz.prog 150 #[.agg #[.slice a (len f) c], .agg #[.slice a' (len g) c']] w fun e w' => e = .returned (.bool (eqT f g)) ∧ Ex w w'
  | 0, f, g, a, a', c, c', lo, lo', w, hf, hg, hT, hT' => by simp [fits] at hf
  | r + 1, f, g, a, a', c, c', lo, lo', w, hf, hg, hT, hT' => by
    by_cases h0 : len f = 0
    · have h0' : ((len f : Int) == 0) = true := by simp [h0]
      have R : Hid (((len f : Int) == (len g : Int)) = eqT f g) := by
        show _ = _
        by_cases h1 : len g = 0
        · rw [eqT_zero h0 h1]; simp [h0, h1]
        · rw [eqT_len f g (by omega)]; simp; omega
      clear hf hg hT hT' h0
      go_enter Tryz.func150, Tryz.ntmps150
      go_wp2_with fail
      go_ret
      exact ⟨ret_b R.out, (Ex.new _ _).alloc _⟩
    · have h0' : ((len f : Int) == 0) = false := by simp [h0]
      by_cases h1 : len g = 0
      · have h1' : ((len g : Int) == 0) = true := by simp [h1]
        have R : Hid (((len f : Int) == (len g : Int)) = eqT f g) := by
          show _ = _
          rw [eqT_len f g (by omega)]; simp; omega
        clear hf hg hT hT' h0 h1
        go_enter Tryz.func150, Tryz.ntmps150
        go_wp2_with fail
        go_ret
        exact ⟨ret_b R.out, (Ex.new _ _).alloc _⟩
      · have h2 : len f = 2 := by have := fits_len hf; omega
        have h2g : len g = 2 := by have := fits_len hg; omega
        rw [fits_two h2, Bool.and_eq_true] at hf
        rw [fits_two h2g, Bool.and_eq_true] at hg
        obtain ⟨b, o, rfl, hlo, hbs, hk⟩ := TA_at hT (by omega)
        obtain ⟨a0, c0, hc0, ht0⟩ := hk 0 (by omega)
        obtain ⟨a1, c1, hc1, ht1⟩ := hk 1 (by omega)
        rw [Nat.add_zero] at hc0
        obtain ⟨b', o', rfl, hlo', hbs', hk'⟩ := TA_at hT' (by omega)
        obtain ⟨a0', c0', hc0', ht0'⟩ := hk' 0 (by omega)
        obtain ⟨a1', c1', hc1', ht1'⟩ := hk' 1 (by omega)
        rw [Nat.add_zero] at hc0'
        have E0 : Hid (Ex w ((w.alloc (.cells #[.slice (some ⟨b, o, none⟩) 2 c] 55)).alloc (.cells #[.slice (some ⟨b', o', none⟩) 2 c'] 55))) := (Ex.new _ _).alloc _
        have KS : Hid (∀ w', Ex ((w.alloc (.cells #[.slice (some ⟨b, o, none⟩) 2 c] 55)).alloc (.cells #[.slice (some ⟨b', o', none⟩) 2 c'] 55)) w' → (Ex ((w.alloc (.cells #[.slice (some ⟨b, o, none⟩) 2 c] 55)).alloc (.cells #[.slice (some ⟨b', o', none⟩) 2 c'] 55)) w' ∧ w'.cell? ⟨w.heap.size, 0, none⟩ = some (.slice (some ⟨b, o, none⟩) 2 c) ∧ w'.cell? ⟨w.heap.size + 1, 0, none⟩ = some (.slice (some ⟨b', o', none⟩) 2 c') ∧ w'.cell? ⟨b, o, none⟩ = some (.slice a0 (len (kid f 0)) c0) ∧ w'.cell? ⟨b, o + 1, none⟩ = some (.slice a1 (len (kid f 1)) c1) ∧ w'.cell? ⟨b', o', none⟩ = some (.slice a0' (len (kid g 0)) c0') ∧ w'.cell? ⟨b', o' + 1, none⟩ = some (.slice a1' (len (kid g 1)) c1'))) := fun w' h => ⟨h, Ex.at h (by simp), Ex.at h (by simp), Ex.at h (Ex.at ((Ex.new _ _).alloc _) hc0), Ex.at h (Ex.at ((Ex.new _ _).alloc _) hc1), Ex.at h (Ex.at ((Ex.new _ _).alloc _) hc0'), Ex.at h (Ex.at ((Ex.new _ _).alloc _) hc1')⟩
        have R : Hid (eqT f g = (eqT (kid f 0) (kid g 0) && eqT (kid f 1) (kid g 1))) := eqT_two h2 h2g
        have J0 : Hid (∀ w', Ex w w' → Calls Tryz.prog 150 #[.agg #[.slice a0 (len (kid f 0)) c0], .agg #[.slice a0' (len (kid g 0)) c0']] w' fun e w'' => e = .returned (.bool (eqT (kid f 0) (kid g 0))) ∧ Ex w' w'') := fun w' h => typeSame_any r (kid f 0) (kid g 0) a0 a0' c0 c0' lo lo' w' hf.1 hg.1 (TA_below ht0 h) (TA_below ht0' h)
        have I1 : Hid (∀ w', Ex w w' → Calls Tryz.prog 150 #[.agg #[.slice a1 (len (kid f 1)) c1], .agg #[.slice a1' (len (kid g 1)) c1']] w' fun e w'' => e = .returned (.bool (eqT (kid f 1) (kid g 1))) ∧ Ex w' w'') := fun w' h => typeSame_any r (kid f 1) (kid g 1) a1 a1' c1 c1' lo lo' w' hf.2 hg.2 (TA_below ht1 h) (TA_below ht1' h)
        generalize eqT f g = res at *
        generalize eqT (kid f 0) (kid g 0) = x0 at *
        generalize eqT (kid f 1) (kid g 1) = x1 at *
        rw [h2, h2g]
        clear hk hk' hT hT' ht0 ht1 ht0' ht1' hf hg h2 h2g h0 h1 h0'
        cases x0
        · have I0 : Hid (∀ w', Ex w w' → Calls Tryz.prog 150 #[.agg #[.slice a0 (len (kid f 0)) c0], .agg #[.slice a0' (len (kid g 0)) c0']] w' fun e w'' => e = .returned (.bool false) ∧ Ex w' w'') := J0
          go_enter Tryz.func150, Tryz.ntmps150
          go_wp2_with fail
          refine wp_region_held_drew (S := fun w' => Ex ((w.alloc (.cells #[.slice (some ⟨b, o, none⟩) 2 c] 55)).alloc (.cells #[.slice (some ⟨b', o', none⟩) 2 c'] 55)) w' ∧ w'.cell? ⟨w.heap.size, 0, none⟩ = some (.slice (some ⟨b, o, none⟩) 2 c) ∧ w'.cell? ⟨w.heap.size + 1, 0, none⟩ = some (.slice (some ⟨b', o', none⟩) 2 c') ∧ w'.cell? ⟨b, o, none⟩ = some (.slice a0 (len (kid f 0)) c0) ∧ w'.cell? ⟨b, o + 1, none⟩ = some (.slice a1 (len (kid f 1)) c1) ∧ w'.cell? ⟨b', o', none⟩ = some (.slice a0' (len (kid g 0)) c0') ∧ w'.cell? ⟨b', o' + 1, none⟩ = some (.slice a1' (len (kid g 1)) c1')) (by kernel_rfl) (KS.out _ (Ex.refl _).drew) (fun hHeld => ?_)
          refine wpAnyH_take (i := 0) (v := ?_) rfl (by kernel_rfl) (by kernel_rfl) (by kernel_rfl) (fun _ _ _ h => h) (Or.inl ⟨by rfl, ?_⟩) (by assumption) ?_
          rotate_left
          · (intro w' hSw; (try dsimp only at hSw); go_simp) <;> with_reducible rfl
          change wpAnyH Tryz.prog _ _ _ _ _ _ (Act.put _ (some 22) _) _
          (try simp only [Act.put, List.setIfInBounds_toArray, List.set_cons_zero, List.set_cons_succ])
          refine wpAnyH_take (i := 1) (v := ?_) rfl (by kernel_rfl) (by kernel_rfl) (by kernel_rfl) (fun _ _ _ h => h) (Or.inl ⟨by rfl, ?_⟩) (by assumption) ?_
          rotate_left
          · (intro w' hSw; (try dsimp only at hSw); go_simp) <;> with_reducible rfl
          change wpAnyH Tryz.prog _ _ _ _ _ _ (Act.put _ (some 23) _) _
          (try simp only [Act.put, List.setIfInBounds_toArray, List.set_cons_zero, List.set_cons_succ])
          refine wpAnyH_take (i := 2) (v := ?_) rfl (by kernel_rfl) (by kernel_rfl) (by kernel_rfl) (fun _ _ _ h => h) (Or.inl ⟨by rfl, ?_⟩) (by assumption) ?_
          rotate_left
          · (intro w' hSw; (try dsimp only at hSw); go_simp) <;> with_reducible rfl
          change wpAnyH Tryz.prog _ _ _ _ _ _ (Act.put _ (some 24) _) _
          (try simp only [Act.put, List.setIfInBounds_toArray, List.set_cons_zero, List.set_cons_succ])
          refine wpAnyH_take (i := 3) (v := ?_) rfl (by kernel_rfl) (by kernel_rfl) (by kernel_rfl) (fun _ _ _ h => h) (Or.inl ⟨by rfl, ?_⟩) (by assumption) ?_
          rotate_left
          · (intro w' hSw; (try dsimp only at hSw); go_simp) <;> with_reducible rfl
          change wpAnyH Tryz.prog _ _ _ _ _ _ (Act.put _ (some 25) _) _
          (try simp only [Act.put, List.setIfInBounds_toArray, List.set_cons_zero, List.set_cons_succ])
          refine wpAnyH_take (i := 4) (v := ?_) rfl (by kernel_rfl) (by kernel_rfl) (by kernel_rfl) (fun _ _ _ h => h) (Or.inl ⟨by rfl, ?_⟩) (by assumption) ?_
          rotate_left
          · (intro w' hSw; (try dsimp only at hSw); go_simp) <;> with_reducible rfl
          change wpAnyH Tryz.prog _ _ _ _ _ _ (Act.put _ (some 26) _) _
          (try simp only [Act.put, List.setIfInBounds_toArray, List.set_cons_zero, List.set_cons_succ])
          refine wpAnyH_take (i := 5) (v := ?_) rfl (by kernel_rfl) (by kernel_rfl) (by kernel_rfl) (fun _ _ _ h => h) (Or.inl ⟨by rfl, ?_⟩) (by assumption) ?_
          rotate_left
          · (intro w' hSw; (try dsimp only at hSw); go_simp) <;> with_reducible rfl
          change wpAnyH Tryz.prog _ _ _ _ _ _ (Act.put _ (some 27) _) _
          (try simp only [Act.put, List.setIfInBounds_toArray, List.set_cons_zero, List.set_cons_succ])
          refine wpAnyH_take (i := 6) (v := ?_) rfl (by kernel_rfl) (by kernel_rfl) (by kernel_rfl) (fun _ _ _ h => h) (Or.inl ⟨by rfl, ?_⟩) (by assumption) ?_
          rotate_left
          · (intro w' hSw; (try dsimp only at hSw); go_simp) <;> with_reducible rfl
          change wpAnyH Tryz.prog _ _ _ _ _ _ (Act.put _ (some 28) _) _
          (try simp only [Act.put, List.setIfInBounds_toArray, List.set_cons_zero, List.set_cons_succ])
          refine wpAnyH_take (i := 7) (v := ?_) rfl (by kernel_rfl) (by kernel_rfl) (by kernel_rfl) (fun _ _ _ h => h) (Or.inl ⟨by rfl, ?_⟩) (by assumption) ?_
          rotate_left
          · (intro w' hSw; (try dsimp only at hSw); go_simp) <;> with_reducible rfl
          change wpAnyH Tryz.prog _ _ _ _ _ _ (Act.put _ (some 29) _) _
          (try simp only [Act.put, List.setIfInBounds_toArray, List.set_cons_zero, List.set_cons_succ])
          refine wpAnyH_ready (rs := [8]) (by kernel_rfl) (by simp) ?_
          refine AllReadyH.cons (i := 8) rfl (fun K hK => ?_) AllReadyH.nil
          go_simp
          refine (I0.out _ (Ex.trans E0.out (And.left hHeld))).mono ?_
          rintro e w1 ⟨rfl, hb0⟩
          have hx1 := Ex.trans (And.left hHeld) hb0
          go_wp2_with fail
          refine hK.out _ _ ?_ (fun hHeld1 => ?_)
          · exact KS.out _ hx1
          clear hK hHeld
          (try simp only [Act.put, List.setIfInBounds_toArray, List.set_cons_zero, List.set_cons_succ])
          refine wpAnyH_take (i := 9) (v := ?_) rfl (by kernel_rfl) (by kernel_rfl) (by kernel_rfl) (fun _ _ _ h => h) (Or.inl ⟨by rfl, ?_⟩) (by assumption) ?_
          rotate_left
          · (intro w' hSw; (try dsimp only at hSw); go_simp) <;> with_reducible rfl
          change wpAnyH Tryz.prog _ _ _ _ _ _ (Act.put _ (some 31) _) _
          (try simp only [Act.put, List.setIfInBounds_toArray, List.set_cons_zero, List.set_cons_succ])
          refine wpAnyH_take (i := 10) (v := undef) rfl (by kernel_rfl) (by kernel_rfl) (by kernel_rfl) (fun _ _ _ h => h) (Or.inr ⟨by kernel_rfl, rfl⟩) (by assumption) ?_
          change wpAnyH Tryz.prog _ _ _ _ _ _ (Act.put _ (some 32) _) _
          (try simp only [Act.put, List.setIfInBounds_toArray, List.set_cons_zero, List.set_cons_succ])
          refine wpAnyH_take (i := 11) (v := undef) rfl (by kernel_rfl) (by kernel_rfl) (by kernel_rfl) (fun _ _ _ h => h) (Or.inr ⟨by kernel_rfl, rfl⟩) (by assumption) ?_
          change wpAnyH Tryz.prog _ _ _ _ _ _ (Act.put _ (some 33) _) _
          (try simp only [Act.put, List.setIfInBounds_toArray, List.set_cons_zero, List.set_cons_succ])
          refine wpAnyH_take (i := 12) (v := undef) rfl (by kernel_rfl) (by kernel_rfl) (by kernel_rfl) (fun _ _ _ h => h) (Or.inr ⟨by kernel_rfl, rfl⟩) (by assumption) ?_
          change wpAnyH Tryz.prog _ _ _ _ _ _ (Act.put _ (some 34) _) _
          (try simp only [Act.put, List.setIfInBounds_toArray, List.set_cons_zero, List.set_cons_succ])
          refine wpAnyH_take (i := 13) (v := undef) rfl (by kernel_rfl) (by kernel_rfl) (by kernel_rfl) (fun _ _ _ h => h) (Or.inr ⟨by kernel_rfl, rfl⟩) (by assumption) ?_
          change wpAnyH Tryz.prog _ _ _ _ _ _ (Act.put _ (some 35) _) _
          (try simp only [Act.put, List.setIfInBounds_toArray, List.set_cons_zero, List.set_cons_succ])
          refine wpAnyH_take (i := 14) (v := undef) rfl (by kernel_rfl) (by kernel_rfl) (by kernel_rfl) (fun _ _ _ h => h) (Or.inr ⟨by kernel_rfl, rfl⟩) (by assumption) ?_
          change wpAnyH Tryz.prog _ _ _ _ _ _ (Act.put _ (some 36) _) _
          (try simp only [Act.put, List.setIfInBounds_toArray, List.set_cons_zero, List.set_cons_succ])
          refine wpAnyH_take (i := 15) (v := undef) rfl (by kernel_rfl) (by kernel_rfl) (by kernel_rfl) (fun _ _ _ h => h) (Or.inr ⟨by kernel_rfl, rfl⟩) (by assumption) ?_
          change wpAnyH Tryz.prog _ _ _ _ _ _ (Act.put _ (some 37) _) _
          (try simp only [Act.put, List.setIfInBounds_toArray, List.set_cons_zero, List.set_cons_succ])
          refine wpAnyH_take (i := 16) (v := undef) rfl (by kernel_rfl) (by kernel_rfl) (by kernel_rfl) (fun _ _ _ h => h) (Or.inr ⟨by kernel_rfl, rfl⟩) (by assumption) ?_
          change wpAnyH Tryz.prog _ _ _ _ _ _ (Act.put _ (some 38) _) _
          (try simp only [Act.put, List.setIfInBounds_toArray, List.set_cons_zero, List.set_cons_succ])
          refine wpAnyH_take (i := 17) (v := undef) rfl (by kernel_rfl) (by kernel_rfl) (by kernel_rfl) (fun _ _ _ h => h) (Or.inr ⟨by kernel_rfl, rfl⟩) (by assumption) ?_
          change wpAnyH Tryz.prog _ _ _ _ _ _ (Act.put _ (some 39) _) _
          (try simp only [Act.put, List.setIfInBounds_toArray, List.set_cons_zero, List.set_cons_succ])
          refine wpAnyH_take (i := 18) (v := undef) rfl (by kernel_rfl) (by kernel_rfl) (by kernel_rfl) (fun _ _ _ h => h) (Or.inr ⟨by kernel_rfl, rfl⟩) (by assumption) ?_
          change wpAnyH Tryz.prog _ _ _ _ _ _ (Act.put _ (some 40) _) _
          (try simp only [Act.put, List.setIfInBounds_toArray, List.set_cons_zero, List.set_cons_succ])
          refine wpAnyH_take (i := 19) (v := ?_) rfl (by kernel_rfl) (by kernel_rfl) (by kernel_rfl) (fun _ _ _ h => h) (Or.inl ⟨by rfl, ?_⟩) (by assumption) ?_
          rotate_left
          · (intro w' hSw; (try dsimp only at hSw); go_simp) <;> with_reducible rfl
          change wpAnyH Tryz.prog _ _ _ _ _ _ (Act.put _ (some 41) _) _
          (try simp only [Act.put, List.setIfInBounds_toArray, List.set_cons_zero, List.set_cons_succ])
          refine wpAnyH_take (i := 20) (v := ?_) rfl (by kernel_rfl) (by kernel_rfl) (by kernel_rfl) (fun _ _ _ h => h) (Or.inl ⟨by rfl, ?_⟩) (by assumption) ?_
          rotate_left
          · (intro w' hSw; (try dsimp only at hSw); go_simp) <;> with_reducible rfl
          change wpAnyH Tryz.prog _ _ _ _ _ _ (Act.put _ (some 4) _) _
          (try simp only [Act.put, List.setIfInBounds_toArray, List.set_cons_zero, List.set_cons_succ])
          refine wpAnyH_done (by kernel_rfl) ?_ _
          go_wp2_with fail
          go_ret
          exact ⟨by rw [R.out]; rfl, E0.out.trans hx1⟩
        · have I0 : Hid (∀ w', Ex w w' → Calls Tryz.prog 150 #[.agg #[.slice a0 (len (kid f 0)) c0], .agg #[.slice a0' (len (kid g 0)) c0']] w' fun e w'' => e = .returned (.bool true) ∧ Ex w' w'') := J0
          go_enter Tryz.func150, Tryz.ntmps150
          go_wp2_with fail
          go_region_held3 (fun w' => Ex ((w.alloc (.cells #[.slice (some ⟨b, o, none⟩) 2 c] 55)).alloc (.cells #[.slice (some ⟨b', o', none⟩) 2 c'] 55)) w' ∧ w'.cell? ⟨w.heap.size, 0, none⟩ = some (.slice (some ⟨b, o, none⟩) 2 c) ∧ w'.cell? ⟨w.heap.size + 1, 0, none⟩ = some (.slice (some ⟨b', o', none⟩) 2 c') ∧ w'.cell? ⟨b, o, none⟩ = some (.slice a0 (len (kid f 0)) c0) ∧ w'.cell? ⟨b, o + 1, none⟩ = some (.slice a1 (len (kid f 1)) c1) ∧ w'.cell? ⟨b', o', none⟩ = some (.slice a0' (len (kid g 0)) c0') ∧ w'.cell? ⟨b', o' + 1, none⟩ = some (.slice a1' (len (kid g 1)) c1')) ((refine KS.out _ ?_; first | exact (Ex.refl _).drew | exact Ex.trans (And.left ‹Ex _ _ ∧ _›) ‹Ex _ _› | exact (And.left ‹Ex _ _ ∧ _›))) (first | (go_at_call_of 150 (Value.slice a0 (len (kid f 0)) c0); refine (I0.out _ (Ex.trans E0.out (And.left ‹Ex _ _ ∧ _›))).mono ?_; rintro e w1 ⟨rfl, hb0⟩) | (go_at_call_of 150 (Value.slice a1 (len (kid f 1)) c1); refine (I1.out _ (Ex.trans E0.out (And.left ‹Ex _ _ ∧ _›))).mono ?_; rintro e w2 ⟨rfl, hb1⟩))
          go_wp2_with fail
          go_ret
          exact ⟨ret_b (by rw [R.out]; rfl), E0.out.trans (And.left ‹Ex _ _ ∧ _›)⟩

end Go.Proofs.YtgpdnoghlommeaaGreatDoor
