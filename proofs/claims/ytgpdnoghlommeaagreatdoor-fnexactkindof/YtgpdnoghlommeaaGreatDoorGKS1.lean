/- What is ok holds, and which function a name is of. Of which types functions say what they say, without the program. Names and types behind names and types, without the program. Worlds in which only blocks of a set have turned. Rows put behind what is owned, wherever that stands: the common part. Rows of types that a call owns, put behind each other wherever that stands. Walks: the type of a name, and of a term, by the specification. -/
import Derived.Test.YtgpdnoghlommeaaGreatDoorBD6
import Derived.Test.YtgpdnoghlommeaaGreatDoorGE1
import Derived.Test.YtgpdnoghlommeaaGreatDoorGBD4
import Derived.Test.YtgpdnoghlommeaaGreatDoorGD3
import Derived.Test.YtgpdnoghlommeaaGreatDoorBD5
import Derived.Test.YtgpdnoghlommeaaGreatDoorGTM2
namespace Go.Proofs.YtgpdnoghlommeaaGreatDoor

open Go.RowKit Go.Deep Go.Maps Go.WideMaps

theorem bodyB_yes {fs : List PM} {d : Nat} {ns : List ByteArray} {b : BD} {z : TM} (h : bodyB fs (d + 1) ns b z = true) : blen b ≤ 400 ∧ (∀ i, i < blen b → bindAt fs (bodyB fs d) ns b i = true) ∧ termsB (nsAt ns b (blen b)) z = true := by
  simp only [bodyB, Bool.and_eq_true, decide_eq_true_eq, List.all_eq_true, List.mem_range] at h
  exact ⟨h.1, h.2.1, h.2.2⟩
theorem bindB_yes {fs : List PM} {rec : List ByteArray → BD → TM → Bool} {ns : List ByteArray} {k : Int} {nm : List ByteArray} {fn : ByteArray} {ts : TM} {tb : BD} {tz : TM} {eb : BD} {ez : TM} (h : bindB fs rec ns k nm fn ts tb tz eb ez = true) :
    nm.length ≤ 60 ∧ termsB ns ts = true ∧ uniqB nm = true ∧ ((k = 1 ∧ nm.length = 1 ∧ tlen ts = 1) ∨ (k = 2 ∧ (arityR fs fn).2.2 = true ∧ (arityR fs fn).1 = tlen ts ∧ (arityR fs fn).2.1 = nm.length) ∨ (k = 3 ∧ tlen ts = 1 ∧ rec ns tb tz = true ∧ rec ns eb ez = true ∧ tlen tz = nm.length ∧ tlen ez = nm.length)) := by
  simp only [bindB, Bool.and_eq_true, decide_eq_true_eq] at h
  obtain ⟨⟨h1, h2⟩, h3, h4⟩ := h
  refine ⟨h1, h2, h3, ?_⟩
  by_cases k1 : k = 1
  · subst k1
    simp only [kindB_1, Bool.and_eq_true, decide_eq_true_eq] at h4
    exact Or.inl ⟨rfl, h4.2.2.1, h4.2.2.2⟩
  by_cases k2 : k = 2
  · subst k2
    simp only [kindB_2, Bool.and_eq_true, decide_eq_true_eq] at h4
    exact Or.inr (Or.inl ⟨rfl, h4.2.1, h4.2.2.1, h4.2.2.2⟩)
  by_cases k3 : k = 3
  · subst k3
    simp only [kindB_3, Bool.and_eq_true, decide_eq_true_eq] at h4
    exact Or.inr (Or.inr ⟨rfl, h4.2.1, h4.2.2.1, h4.2.2.2.1, h4.2.2.2.2.1, h4.2.2.2.2.2⟩)
  · rw [kindB_o k1 k2 k3] at h4; cases h4
theorem termsB_kids {ns : List ByteArray} {f : TM} (h : termsB ns f = true) : tlen f ≤ 60 ∧ kidsB ns 8 f = true := by
  simp only [termsB, Bool.and_eq_true, decide_eq_true_eq] at h
  exact ⟨h.1, h.2⟩
theorem pureAt_yes {l : List PM} {i : Nat} (h : pureAt l i = true) : (arityR (l.take i) (l.getD i pm0).name).2.2 = false ∧ wordB (l.getD i pm0).name = true ∧ (l.getD i pm0).params.length ≤ 60 ∧ bodyB (l.take i) 6 (l.getD i pm0).params (l.getD i pm0).binds (l.getD i pm0).says = true ∧ uniqB (l.getD i pm0).params = true := by
  simp only [pureAt, Bool.and_eq_true, decide_eq_true_eq, Bool.not_eq_true'] at h
  exact ⟨h.1, h.2.1, h.2.2.1, h.2.2.2.1, h.2.2.2.2⟩

/-- The index of a function by its name. -/
theorem arity_find {l : List PM} {m : Nat} (hm : m ≤ l.length) {s : ByteArray} (h : (arityR (l.take m) s).2.2 = true) : ∃ i, i < m ∧ ((l.getD i pm0).name.toList == s.toList) = true ∧ (∀ j, j < i → ((l.getD j pm0).name.toList == s.toList) = false) ∧ arityR (l.take m) s = ((l.getD i pm0).params.length, tlen (l.getD i pm0).says, true) := by
  have key : ∀ k, k ≤ m → (∀ j, j < k → ((l.getD j pm0).name.toList == s.toList) = false) ∨ ∃ i, i < k ∧ ((l.getD i pm0).name.toList == s.toList) = true ∧ ∀ j, j < i → ((l.getD j pm0).name.toList == s.toList) = false := by
    intro k
    induction k with
    | zero => intro _; exact Or.inl fun j hj => by omega
    | succ k ih =>
      intro hk
      rcases ih (by omega) with h1 | ⟨i, h1, h2⟩
      · cases e : (l.getD k pm0).name.toList == s.toList with
        | true => exact Or.inr ⟨k, by omega, e, h1⟩
        | false =>
          refine Or.inl fun j hj => ?_
          by_cases ej : j = k
          · rw [ej]; exact e
          · exact h1 j (by omega)
      · exact Or.inr ⟨i, by omega, h2⟩
  rcases key m (Nat.le_refl _) with h1 | ⟨i, h1, h2, h3⟩
  · rw [arity_no hm h1] at h; cases h
  · exact ⟨i, h1, h2, h3, arity_yes (by omega) h1 h3 h2⟩
theorem names_apart {l : List PM} {i k : Nat} (hk : k < l.length) (h : pureAt l k = true) (hi : i < k) {s : ByteArray} (hs : ((l.getD i pm0).name.toList == s.toList) = true) : ((l.getD k pm0).name.toList == s.toList) = false := by
  cases e : (l.getD k pm0).name.toList == s.toList with
  | false => rfl
  | true =>
    exfalso
    have h1 := (pureAt_yes h).1
    have e1 : (l.getD i pm0).name.toList = (l.getD k pm0).name.toList := (beq_iff_eq.1 hs).trans (beq_iff_eq.1 e).symm
    have key : ∀ (q : List PM), i < q.length → (∀ j, j < q.length → q.getD j pm0 = l.getD j pm0) → (arityR q (l.getD k pm0).name).2.2 = true := by
      intro q hq he
      unfold arityR
      cases hf : q.find? (fun f => f.name.toList == (l.getD k pm0).name.toList) with
      | some f => rfl
      | none =>
        rw [List.find?_eq_none] at hf
        have := hf (q.getD i pm0) (by rw [List.getD_eq_getElem?_getD, List.getElem?_eq_getElem hq]; exact List.getElem_mem _)
        rw [he i hq, e1] at this
        simp at this
    rw [key (l.take k) (by rw [List.length_take]; omega) fun j hj => by rw [List.length_take] at hj; rw [List.getD_eq_getElem?_getD, List.getElem?_take_of_lt (by omega), ← List.getD_eq_getElem?_getD]] at h1
    cases h1

end Go.Proofs.YtgpdnoghlommeaaGreatDoor

namespace Go.Proofs.YtgpdnoghlommeaaGreatDoor

open Go.RowKit Go.Deep Go.Maps Go.WideMaps

abbrev TEnv := ByteArray → F
abbrev TCall := ByteArray → F → Option F

/-- What a binding gives its names to, of types: both bodies, whichever is chosen. -/
def kindK (call : TCall) (rec : TEnv → BD → TM → Option F) (L : TEnv) (k : Int) (fn : ByteArray) (tb : BD) (tz : TM) (eb : BD) (ez : TM) (l : F) : Option F :=
  if k = 2 then call fn l else if k = 3 then (rec L tb tz).bind fun x => (rec L eb ez).bind fun y => (if len (kid l 0) = 0 ∧ eqT x y = true then some x else none) else some l
def bindK (call : TCall) (rec : TEnv → BD → TM → Option F) (L : TEnv) (b : BD) (i : Nat) : Option F :=
  (evT L (bterms b i)).bind fun l => kindK call rec L (bkind b i) (bfn b i) (bthen b i) (btsay b i) (belse b i) (besay b i) l
/-- The types of names behind so many bindings. -/
def envK (call : TCall) (rec : TEnv → BD → TM → Option F) (L : TEnv) (b : BD) : Nat → Option TEnv
  | 0 => some L
  | i + 1 => (envK call rec L b i).bind fun L' => (bindK call rec L' b i).bind fun l => some (setAll L' (bnames b i) l (bnames b i).length)
/-- Of which types a body says what it says, at most so deep. -/
def bodyK (call : TCall) : Nat → TEnv → BD → TM → Option F
  | 0, _, _, _ => none
  | d + 1, L, b, z => (envK call (bodyK call d) L b (blen b)).bind fun L' => evT L' z
def noK : TEnv := fun _ => .nil
/-- .. a function. -/
def fnK (l : List PM) (call : TCall) (i : Nat) (v : F) : Option F :=
  bodyK call 6 (setAll noK (l.getD i pm0).params v (l.getD i pm0).params.length) (l.getD i pm0).binds (l.getD i pm0).says
/-- .. a call of one of the first functions. -/
def callK (l : List PM) : Nat → TCall
  | 0, _, _ => none
  | m + 1, s, v => if ((l.getD m pm0).name.toList == s.toList) = true then fnK l (callK l m) m v else callK l m s v

/-- All types that names are of are ok. -/
def fitE (L : TEnv) : Prop := ∀ s, fits 4 (L s) = true
def fitL (l : F) : Prop := ∀ i, i < len l → fits 4 (kid l i) = true
theorem fitE_no : fitE noK := fun _ => rfl
theorem fitE_set {L : TEnv} {s : ByteArray} {v : F} (h : fitE L) (hv : fits 4 v = true) : fitE (setK L s v) := fun t => by
  unfold setK
  split
  · exact hv
  · exact h t
theorem fitE_all {L : TEnv} {ns : List ByteArray} {l : F} (h : fitE L) (hl : fitL l) : ∀ k, k ≤ len l → fitE (setAll L ns l k)
  | 0, _ => h
  | k + 1, hk => fitE_set (fitE_all h hl k (by omega)) (hl k (by omega))

/-- Calls are of what the function is of. -/
def okCallK (fs : List PM) (call : TCall) : Prop := ∀ s v r, (arityR fs s).2.2 = true → len v = (arityR fs s).1 → fitL v → call s v = some r → fitL r ∧ len r = (arityR fs s).2.1
def okRecK (rec : TEnv → BD → TM → Option F) (recB : List ByteArray → BD → TM → Bool) : Prop := ∀ ns L b z r, recB ns b z = true → fitE L → rec L b z = some r → fitL r ∧ len r = tlen z

theorem bind_fit {fs : List PM} {call : TCall} {rec : TEnv → BD → TM → Option F} {recB : List ByteArray → BD → TM → Bool} (hc : okCallK fs call) (hr : okRecK rec recB) {ns : List ByteArray} {L : TEnv} {b : BD} {i : Nat} {r : F} (h : bindB fs recB ns (bkind b i) (bnames b i) (bfn b i) (bterms b i) (bthen b i) (btsay b i) (belse b i) (besay b i) = true) (hL : fitE L) (e : bindK call rec L b i = some r) : fitL r ∧ len r = (bnames b i).length := by
  obtain ⟨_, h2, _, h4⟩ := bindB_yes h
  obtain ⟨_, h5⟩ := termsB_kids h2
  unfold bindK at e
  cases he : evT L (bterms b i) with
  | none => rw [he] at e; cases e
  | some l =>
    rw [he] at e
    have hl : fitL l := evt_fit hL ns 8 _ h5 l he
    have hn := evT_len he
    simp only [Option.bind_some, kindK] at e
    rcases h4 with ⟨k1, n1, t1⟩ | ⟨k2, a1, a2, a3⟩ | ⟨k3, t1, r1, r2, n1, n2⟩
    · rw [k1] at e
      cases e
      exact ⟨hl, by omega⟩
    · rw [if_pos k2] at e
      have := hc _ _ _ a1 (by omega) hl e
      exact ⟨this.1, by omega⟩
    · rw [if_neg (by omega), if_pos k3] at e
      cases hx : rec L (bthen b i) (btsay b i) with
      | none => rw [hx] at e; cases e
      | some x =>
        rw [hx] at e
        simp only [Option.bind_some] at e
        cases hy : rec L (belse b i) (besay b i) with
        | none => rw [hy] at e; cases e
        | some y =>
          rw [hy] at e
          simp only [Option.bind_some] at e
          split at e
          · cases e
            have := hr _ _ _ _ _ r1 hL hx; exact ⟨this.1, by omega⟩
          · cases e
theorem env_fit {fs : List PM} {call : TCall} {d : Nat} (hc : okCallK fs call) (hr : okRecK (bodyK call d) (bodyB fs d)) {ns : List ByteArray} {L : TEnv} {b : BD} (h : ∀ i, i < blen b → bindAt fs (bodyB fs d) ns b i = true) (hL : fitE L) : ∀ j, j ≤ blen b → ∀ L', envK call (bodyK call d) L b j = some L' → fitE L'
  | 0, _, L', e => by cases e; exact hL
  | j + 1, hj, L', e => by
    rw [envK] at e
    cases h1 : envK call (bodyK call d) L b j with
    | none => rw [h1] at e; cases e
    | some L1 =>
      rw [h1] at e
      simp only [Option.bind_some] at e
      have t1 := env_fit hc hr h hL j (by omega) L1 h1
      cases h2 : bindK call (bodyK call d) L1 b j with
      | none => rw [h2] at e; cases e
      | some l =>
        rw [h2] at e; cases e
        obtain ⟨t2, n2⟩ := bind_fit hc hr (h j (by omega)) t1 h2
        exact fitE_all t1 t2 _ (by omega)
theorem body_fit {fs : List PM} {call : TCall} (hc : okCallK fs call) : ∀ d, okRecK (bodyK call d) (bodyB fs d)
  | 0 => fun _ _ _ _ _ h _ _ => by cases h
  | d + 1 => fun ns L b z r h hL e => by
    obtain ⟨_, h2, h3⟩ := bodyB_yes h
    rw [bodyK] at e
    cases h1 : envK call (bodyK call d) L b (blen b) with
    | none => rw [h1] at e; cases e
    | some L' =>
      rw [h1] at e
      simp only [Option.bind_some] at e
      have t := env_fit hc (body_fit hc d) h2 hL _ (Nat.le_refl _) L' h1
      exact ⟨evt_fit t _ 8 _ (termsB_kids h3).2 _ e, evT_len e⟩

theorem callK_at {l : List PM} {s : ByteArray} {v : F} {i : Nat} (hi : ((l.getD i pm0).name.toList == s.toList) = true) : ∀ m, m ≤ l.length → (∀ j, j < m → pureAt l j = true) → i < m → callK l m s v = fnK l (callK l i) i v
  | 0, _, _, h => by omega
  | m + 1, hm, hp, h => by
    rw [callK]
    by_cases e : i = m
    · subst e; rw [if_pos hi]
    · rw [if_neg (by rw [names_apart (by omega) (hp m (by omega)) (by omega) hi]; simp)]
      exact callK_at hi m (by omega) (fun j hj => hp j (by omega)) (by omega)
theorem okCallK_at {l : List PM} : ∀ m, m ≤ l.length → (∀ j, j < m → pureAt l j = true) → okCallK (l.take m) (callK l m) := by
  intro m
  induction m using Nat.strongRecOn with
  | _ m ih =>
    intro hm hp s v r ha hv ht e
    obtain ⟨i, h1, h2, _, h4⟩ := arity_find hm ha
    rw [callK_at h2 m hm hp h1] at e
    rw [h4] at hv ⊢
    exact body_fit (ih i h1 (by omega) fun j hj => hp j (by omega)) 6 _ _ _ _ _ (pureAt_yes (hp i h1)).2.2.2.1 (fitE_all fitE_no ht _ (by rw [hv]; exact Nat.le_refl _)) e

end Go.Proofs.YtgpdnoghlommeaaGreatDoor

namespace Go.Proofs.YtgpdnoghlommeaaGreatDoor

open Go.RowKit Go.Deep

/-- Types behind types. -/
def catT (l r : F) : Nat → F
  | 0 => l
  | k + 1 => snoc (catT l r k) 0 (kid r k)
theorem catT_len (l r : F) : ∀ k, len (catT l r k) = len l + k
  | 0 => rfl
  | k + 1 => by rw [catT, len_snoc, catT_len l r k]; omega
theorem catT_at (l r : F) : ∀ k i, i < len l + k → kid (catT l r k) i = (if i < len l then kid l i else kid r (i - len l))
  | 0, i, h => by rw [if_pos (by omega)]; rfl
  | k + 1, i, h => by
    rw [catT, kid_snoc, catT_len]
    by_cases e : i < len l + k
    · rw [if_pos e]; exact catT_at l r k i e
    · have ei : i = len l + k := by omega
      rw [if_neg e, if_pos ei, if_neg (by omega), show i - len l = k by omega]
theorem fitL_cat {l r : F} (hl : fitL l) (hr : fitL r) : ∀ k, k ≤ len r → fitL (catT l r k)
  | 0, _ => hl
  | k + 1, hk => fun i hi => by
    have h := fitL_cat hl hr k (by omega)
    rw [catT, len_snoc] at hi
    rw [catT, kid_snoc]
    by_cases e : i < len (catT l r k)
    · rw [if_pos e]; exact h i e
    · rw [if_neg e, if_pos (by omega)]; exact hr k (by omega)
theorem setAll_lo {L : TEnv} {ns ms : List ByteArray} {vs r : F} {k : Nat} : ∀ i, i ≤ ns.length → i ≤ len vs → setAll L (ns ++ ms) (catT vs r k) i = setAll L ns vs i
  | 0, _, _ => rfl
  | i + 1, h, h' => by
    have e : (ns ++ ms).getD i ⟨#[]⟩ = ns.getD i ⟨#[]⟩ := by
      rw [List.getD_eq_getElem?_getD, List.getD_eq_getElem?_getD, List.getElem?_append_left (by omega)]
    have e2 := catT_at vs r k i (by omega)
    rw [if_pos (by omega)] at e2
    rw [setAll, setAll, e, e2, setAll_lo i (by omega) (by omega)]
/-- Bound in two rows is bound in one behind the other. -/
theorem setAll_cat {L : TEnv} {ns ms : List ByteArray} {vs r : F} (hl : len vs = ns.length) : ∀ k, k ≤ ms.length → k ≤ len r → setAll L (ns ++ ms) (catT vs r (len r)) (ns.length + k) = setAll (setAll L ns vs ns.length) ms r k
  | 0, _, _ => setAll_lo ns.length (Nat.le_refl _) (by omega)
  | k + 1, h, h' => by
    have e : (ns ++ ms).getD (ns.length + k) ⟨#[]⟩ = ms.getD k ⟨#[]⟩ := by
      rw [List.getD_eq_getElem?_getD, List.getD_eq_getElem?_getD, List.getElem?_append_right (by omega), show ns.length + k - ns.length = k by omega]
    have e2 := catT_at vs r (len r) (ns.length + k) (by omega)
    rw [if_neg (by omega), show ns.length + k - len vs = k by omega] at e2
    show setAll L (ns ++ ms) _ (ns.length + k + 1) = _
    rw [setAll, setAll, e, e2, setAll_cat hl k (by omega) (by omega)]
theorem setAll_all {L : TEnv} {ns ms : List ByteArray} {vs r : F} (hl : len vs = ns.length) (hr : len r = ms.length) : setAll L (ns ++ ms) (catT vs r (len r)) (ns ++ ms).length = setAll (setAll L ns vs ns.length) ms r ms.length := by
  rw [List.length_append]
  exact setAll_cat hl ms.length (Nat.le_refl _) (by omega)
/-- A body whose bindings fail is of no type. -/
theorem envK_none {call : TCall} {rec : TEnv → BD → TM → Option F} {L : TEnv} {b : BD} {j : Nat} (h : envK call rec L b j = none) : ∀ i, j ≤ i → envK call rec L b i = none := by
  intro i hi
  induction i with
  | zero => obtain rfl : j = 0 := by omega
            exact h
  | succ i ih =>
    by_cases e : j = i + 1
    · rw [← e]; exact h
    · rw [envK, ih (by omega)]; rfl
theorem bodyK_none {call : TCall} {d : Nat} {L L' : TEnv} {b : BD} {z : TM} {j : Nat} (hj : j < blen b) (h : envK call (bodyK call d) L b j = some L') (hb : bindK call (bodyK call d) L' b j = none) : bodyK call (d + 1) L b z = none := by
  rw [bodyK, envK_none (j := j + 1) (by rw [envK, h]; show (bindK call (bodyK call d) L' b j).bind _ = none; rw [hb]; rfl) _ (by omega)]; rfl
theorem envK_step {call : TCall} {d : Nat} {L L' : TEnv} {b : BD} {j : Nat} {l : F} (h : envK call (bodyK call d) L b j = some L') (hb : bindK call (bodyK call d) L' b j = some l) : envK call (bodyK call d) L b (j + 1) = some (setAll L' (bnames b j) l (bnames b j).length) := by
  rw [envK, h]; show (bindK call (bodyK call d) L' b j).bind _ = _; rw [hb]; rfl

end Go.Proofs.YtgpdnoghlommeaaGreatDoor

namespace Go.Proofs.YtgpdnoghlommeaaGreatDoor

open Go.RowKit Go.Deep

/-- Of what was there only blocks of S have turned. -/
structure FrS (S : Nat → Prop) (w w' : World) : Prop where
  os : w'.os = w.os
  tape : w'.tape = w.tape
  output : w'.output = w.output
  size : w.heap.size ≤ w'.heap.size
  block : ∀ k, k < w.heap.size → ¬ S k → w'.heap[k]? = w.heap[k]?
theorem FrS.refl (S : Nat → Prop) (w : World) : FrS S w w := ⟨rfl, rfl, rfl, Nat.le_refl _, fun _ _ _ => rfl⟩
theorem FrS.trans {S : Nat → Prop} {a b c : World} (h : FrS S a b) (k : FrS S b c) : FrS S a c :=
  ⟨k.os.trans h.os, k.tape.trans h.tape, k.output.trans h.output, Nat.le_trans h.size k.size, fun i hi hn => (k.block i (Nat.lt_of_lt_of_le hi h.size) hn).trans (h.block i hi hn)⟩
theorem FrS.mono {S T : Nat → Prop} {a b : World} (h : FrS S a b) (hs : ∀ k, S k → T k) : FrS T a b := ⟨h.os, h.tape, h.output, h.size, fun k hk hn => h.block k hk fun hh => hn (hs k hh)⟩
theorem FrS.of_ex {S : Nat → Prop} {a b : World} (h : Ex a b) : FrS S a b := ⟨h.os, h.tape, h.output, h.size, fun k hk _ => h.block k hk⟩
theorem FrS.set {S : Nat → Prop} {a b : World} (h : FrS S a b) {p : Addr} (hp : S p.block) (v : Value) : FrS S a (b.setCell p v) :=
  ⟨h.os, h.tape, h.output, by rw [World.size_setCell]; exact h.size, fun k hk hn => by rw [Below.heap_setCell _ _ _ _ (fun e => hn (by rw [e]; exact hp))]; exact h.block k hk hn⟩
theorem FrS.at {S : Nat → Prop} {a b : World} (h : FrS S a b) {p : Addr} {v : Value} (hn : ¬ S p.block) (hc : a.cell? p = some v) : b.cell? p = some v :=
  (World.cell?_of_block (w := a) (h.block _ (World.block_lt_of_cell? _ _ hc) hn)).trans hc

theorem FrS.to_ex {S : Nat → Prop} {w a b : World} (h : FrS S a b) (hx : Ex w a) (hS : ∀ k, S k → w.heap.size ≤ k) : Ex w b :=
  ⟨h.os.trans hx.os, h.tape.trans hx.tape, h.output.trans hx.output, Nat.le_trans hx.size h.size, fun k hk => (h.block k (Nat.lt_of_lt_of_le hk hx.size) fun hs => by have := hS k hs; omega).trans (hx.block k hk)⟩

end Go.Proofs.YtgpdnoghlommeaaGreatDoor

namespace Go.Proofs.YtgpdnoghlommeaaGreatDoor

open Go.RowKit Go.Deep Go.Maps Go.WideMaps

/-- The new row's block: the same, or a new one. -/
def Moved (w w' : World) (v v' : Value) : Prop := v'.ownBlock = v.ownBlock ∨ ∃ g, v'.ownBlock = some g ∧ (v.ownBlock = some g ∨ g = w.heap.size) ∧ g < w'.heap.size

theorem step_of_wp {P : Program} {ops : Array Oper} {o : Oper} {a : Act} {w : World} {K : Act → World → Prop} {Q : Exit → Act → World → Prop} {E : Prop} (hg : o.guard = none) (h : Oper.wp P o a w K Q) :
    if Region.wanted o (yielded ops a.tmps) = true then Oper.wp P o a w K Q else E := by
  rw [if_pos (by simp [Region.wanted, hg])]; exact h

set_option maxHeartbeats 1000000 in
theorem wp_rows {P : Program} {o : Oper} {a : Act} {w : World} {K : Act → World → Prop} {Q : Exit → Act → World → Prop} (s x : Operand) (t : TypeId)
    (ho : o.op = .call { callee := .builtin .append, args := #[s, x], argTypes := #[t, t] }) (e : TypeId) (i : TypeInfo) (z : Value) (size bytes : Nat) (ht : P.underlying t = some (.slice e)) (hi : P.info? e = some i) (hz : i.zero = some z)
    (hsize : i.size = size) (hby : i.bytes = bytes) (hzs : z.cells.size = size) (hsz : 0 < size) (hb64 : bytes ≤ 64) (base : Nat) (hbase : base ≤ w.heap.size)
    (v : Value) (n : Nat) (xs : List Value) (hs : a.eval s = v) (hown : w.ownsRow base e size v n xs)
    (pa : Option Addr) (pc m : Nat) (news : List Value) (hx : a.eval x = .slice pa m pc) (hm : news.length = m * size) (hL : LS w news pa) (h1 : ∀ u ∈ news, u.oneCell' = true) (h63 : n + m ≤ 1000000)
    (h : ∀ v' w', w'.ownsRow base e size v' (n + m) (xs ++ news) → w.grownBy w' v.ownBlock → Moved w w' v v' → K (a.put o.dst v') w') : Oper.wp P o a w K Q := by
  by_cases h0 : m = 0
  · subst h0
    have hn : news = [] := List.length_eq_zero_iff.mp (by omega)
    subst hn
    have hrun := run_append_zero (P := P) (w := w) base t o.type e i size ht hi v n xs hown pa pc
    unfold Oper.wp
    simp [execOp, ho, resolve, invoke, builtin, hs, hx, hrun, Result.andThen]
    exact h v w (by simpa using hown) (grown_same _ _) (Or.inl rfl)
  · have hpos : 0 < news.length := by rw [hm]; exact Nat.mul_pos (by omega) hsz
    rcases hL with hL | ⟨b, of, rfl, hc⟩
    · omega
    · refine wp_append_lies w s x t ho base e i z size bytes ht hi hz hsize hby hzs hsz v n xs hs hown ⟨b, of, none⟩ m pc news hx hm ?_ h1 (by omega) (by unfold maxLen; omega) (by
        have : (n + m) * bytes ≤ 1000000 * 64 := Nat.mul_le_mul h63 hb64
        omega) hbase w.heap.size rfl fun g cap w' h2 h3 h4 h5 => h _ w' h2 h3 (Or.inr ⟨g, rfl, h4, h5⟩)
      intro j u hu
      rw [Go.WideShapes.add_plain]
      exact hc j u hu

/-- Names put behind names. -/
theorem wp_names {o : Oper} {a : Act} {w : World} {K : Act → World → Prop} {Q : Exit → Act → World → Prop} (s x : Operand)
    (ho : o.op = .call { callee := .builtin .append, args := #[s, x], argTypes := #[40, 40] }) (base : Nat) (hbase : base ≤ w.heap.size)
    (v : Value) (p : List ByteArray) (hs : a.eval s = v) (hown : w.ownsRow base 9 1 v p.length (p.map Value.string)) (q : List ByteArray) (qa : Option Addr) (qc : Nat) (hx : a.eval x = .slice qa q.length qc) (hX : XA w 0 q qa) (h63 : p.length + q.length ≤ 1000000)
    (h : ∀ v' w', w'.ownsRow base 9 1 v' (p ++ q).length ((p ++ q).map Value.string) → w.grownBy w' v.ownBlock → Moved w w' v v' → K (a.put o.dst v') w') : Oper.wp Tryz.prog o a w K Q := by
  obtain ⟨i0, hi, hz0, hz1, hz2⟩ := info_parts infoText
  exact wp_rows s x 40 ho 9 i0 (.string ⟨#[]⟩) 1 16 Tryz.underlying40 hi hz0 hz1 hz2 rfl (by omega) (by omega) base hbase v p.length _ hs hown qa qc q.length (q.map Value.string) hx (by simp) (LS_texts hX) one_texts h63 fun v' w' h1 h2 h3 => h v' w' (by rw [List.length_append, List.map_append]; exact h1) h2 h3

theorem Moved.own {w w' : World} {v v' : Value} (h : Moved w w' v v') {k : Nat} (hk : v'.ownBlock = some k) : v.ownBlock = some k ∨ k = w.heap.size := by
  rcases h with h | ⟨g, hg, hor, _⟩
  · exact Or.inl (h ▸ hk)
  · rw [hg] at hk; cases hk; exact hor
theorem FrS.out {S T : Nat → Prop} {a b c : World} (h : FrS S a b) (k : FrS T b c) (hT : ∀ i, i < a.heap.size → T i → S i) : FrS S a c :=
  ⟨k.os.trans h.os, k.tape.trans h.tape, k.output.trans h.output, Nat.le_trans h.size k.size, fun i hi hn => (k.block i (Nat.lt_of_lt_of_le hi h.size) fun ht => hn (hT i hi ht)).trans (h.block i hi hn)⟩
theorem row_fr {w w' : World} {base n size : Nat} {e : TypeId} {v : Value} {xs : List Value} (h : w.ownsRow base e size v n xs) (hk : ∀ g, v.ownBlock = some g → w'.heap[g]? = w.heap[g]?) : w'.ownsRow base e size v n xs := by
  obtain ⟨h0, h1⟩ := h
  refine ⟨h0, ?_⟩
  rcases h1 with h1 | ⟨g, cap, cur, e, hg, hc, h3⟩
  · exact Or.inl h1
  · exact Or.inr ⟨g, cap, cur, e, hg, (hk g (by rw [e]; rfl)).trans hc, h3⟩

/-- The blocks of an environment, and what is outside of these. -/
def Own3 (B : Nat) (nv vv : Value) (b : Nat) : Prop := b = B ∨ nv.ownBlock = some b ∨ vv.ownBlock = some b
def Out3 (X : Nat → Prop) (B : Nat) (nv vv : Value) (b : Nat) : Prop := ¬ X b ∧ ¬ Own3 B nv vv b

end Go.Proofs.YtgpdnoghlommeaaGreatDoor

namespace Go.Proofs.YtgpdnoghlommeaaGreatDoor

open Go.RowKit Go.Deep Go.Maps Go.WideMaps

/-- Types in memory: the row in a block of T, what is behind it in S. -/
def TTop (w : World) (T S : Nat → Prop) (f : F) (a : Option Addr) : Prop := len f = 0 ∨ ∃ b o, a = some ⟨b, o, none⟩ ∧ T b ∧ b < w.heap.size ∧ ∀ i, i < len f → ∃ a' cap, w.cell? ⟨b, o + i, none⟩ = some (.slice a' (len (kid f i)) cap) ∧ SA w S (kid f i) a'
theorem TTop.at0 {w : World} {T S : Nat → Prop} {f : F} {a : Option Addr} (h : TTop w T S f a) (h0 : 0 < len f) : ∃ b o, a = some ⟨b, o, none⟩ ∧ T b ∧ b < w.heap.size ∧ ∀ i, i < len f → ∃ a' cap, w.cell? ⟨b, o + i, none⟩ = some (.slice a' (len (kid f i)) cap) ∧ SA w S (kid f i) a' := by
  rcases h with h | h
  · omega
  · exact h
theorem TTop.mono {w : World} {T T' S S' : Nat → Prop} {f : F} {a : Option Addr} (h : TTop w T S f a) (hT : ∀ b, b < w.heap.size → T b → T' b) (hS : ∀ b, b < w.heap.size → S b → S' b) : TTop w T' S' f a := by
  rcases h with h | ⟨b, o, e, h1, h2, h3⟩
  · exact Or.inl h
  · exact Or.inr ⟨b, o, e, hT b h2 h1, h2, fun i hi => by
      obtain ⟨a', c', e2, hV⟩ := h3 i hi
      exact ⟨a', c', e2, SA_mono hV hS⟩⟩
theorem TTop.keep {w w' : World} {T S : Nat → Prop} {f : F} {a : Option Addr} (h : TTop w T S f a) (hz : w.heap.size ≤ w'.heap.size) (hk : ∀ b, b < w.heap.size → T b ∨ S b → w'.heap[b]? = w.heap[b]?) : TTop w' T S f a := by
  rcases h with h | ⟨b, o, e, hT, hb, hc⟩
  · exact Or.inl h
  · have hbb := hk b hb (Or.inl hT)
    refine Or.inr ⟨b, o, e, hT, by omega, fun i hi => ?_⟩
    obtain ⟨a', c', h2, h3⟩ := hc i hi
    exact ⟨a', c', (World.cell?_of_block (w := w) hbb).trans h2, SA_ks h3 fun q hq hl => hk q hl (Or.inr hq)⟩
theorem TTop.ex {w w' : World} {T S : Nat → Prop} {f : F} {a : Option Addr} (h : TTop w T S f a) (hx : Ex w w') : TTop w' T S f a := h.keep hx.size fun b hl _ => hx.block b hl
theorem TTop.sa {w : World} {T S U : Nat → Prop} {f : F} {a : Option Addr} (h : TTop w T S f a) (hT : ∀ b, b < w.heap.size → T b → U b) (hS : ∀ b, b < w.heap.size → S b → U b) : SA w U f a := by
  rcases h with h | ⟨b, o, rfl, h1, h2, h3⟩
  · exact Or.inl h
  · exact SA_mk (hT b h2 h1) fun i hi => by
      obtain ⟨a', c', e2, hV⟩ := h3 i hi
      exact ⟨a', c', e2, SA_mono hV hS⟩
theorem SA.ttop {w : World} {S : Nat → Prop} {f : F} {a : Option Addr} (h : SA w S f a) : TTop w S S f a := by
  by_cases h0 : len f = 0
  · exact Or.inl h0
  · obtain ⟨b, o, e, h1, h2, h3⟩ := SA_at h (by omega)
    exact Or.inr ⟨b, o, e, h1, h2, h3⟩

/-- A row of types of one's own, what is behind them in S. -/
def RT (w : World) (base : Nat) (S : Nat → Prop) (v : Value) (l : F) : Prop := ∃ cs, w.ownsRow base 55 1 v (len l) cs ∧
  ∀ j, j < len l → ∃ a' c', cs[j]? = some (.slice a' (len (kid l j)) c') ∧ SA w S (kid l j) a'
theorem RT.own {w : World} {base : Nat} {S : Nat → Prop} {v : Value} {l : F} (h : RT w base S v l) : ∀ g, v.ownBlock = some g → base ≤ g ∧ g < w.heap.size := by
  obtain ⟨cs, hr, _⟩ := h
  exact fun g hg => hr.lt g hg
theorem RT.keep {w w' : World} {base : Nat} {S : Nat → Prop} {v : Value} {l : F} (h : RT w base S v l) (hk : ∀ g, v.ownBlock = some g → w'.heap[g]? = w.heap[g]?) (hS : ∀ b, b < w.heap.size → S b → w'.heap[b]? = w.heap[b]?) : RT w' base S v l := by
  obtain ⟨cs, h1, h2⟩ := h
  refine ⟨cs, row_fr h1 hk, fun j hj => ?_⟩
  obtain ⟨a', c', e2, hV⟩ := h2 j hj
  exact ⟨a', c', e2, SA_ks hV fun b hs hl => hS b hl hs⟩
theorem RT.mono {w : World} {base : Nat} {S S' : Nat → Prop} {v : Value} {l : F} (h : RT w base S v l) (hS : ∀ b, b < w.heap.size → S b → S' b) : RT w base S' v l := by
  obtain ⟨cs, h1, h2⟩ := h
  refine ⟨cs, h1, fun j hj => ?_⟩
  obtain ⟨a', c', e2, hV⟩ := h2 j hj
  exact ⟨a', c', e2, SA_mono hV hS⟩
theorem RT.ex {w w' : World} {base : Nat} {S : Nat → Prop} {v : Value} {l : F} (h : RT w base S v l) (hx : Ex w w') : RT w' base S v l := by
  obtain ⟨cs, hr, hv⟩ := id h
  exact h.keep (fun g hg => hx.block g (hr.lt g hg).2) fun b hl _ => hx.block b hl
theorem RT.empty (w : World) (base : Nat) (S : Nat → Prop) (hb : base ≤ w.heap.size) : RT (w.alloc (.cells #[] 55)) base S (.slice (some ⟨w.heap.size, 0, none⟩) 0 0) .nil :=
  ⟨[], own_none_texts _ hb, fun _ hj => absurd hj (Nat.not_lt_zero _)⟩
theorem RT.congr {w : World} {base : Nat} {S : Nat → Prop} {v : Value} {l : F} (h : RT w base S v l) (l' : F) (hl : len l = len l') (hk : ∀ i, i < len l → kid l i = kid l' i) : RT w base S v l' := by
  obtain ⟨cs, hr, hv⟩ := h
  refine ⟨cs, hl ▸ hr, fun j hj => ?_⟩
  obtain ⟨a', c', e2, hV⟩ := hv j (by omega)
  have k2 := hk j (by omega)
  exact ⟨a', c', k2 ▸ e2, k2 ▸ hV⟩
theorem RT.top {w : World} {base : Nat} {S : Nat → Prop} {v : Value} {l : F} (h : RT w base S v l) : ∃ a c, v = .slice a (len l) c ∧ TTop w (fun b => v.ownBlock = some b) S l a := by
  obtain ⟨cs, h1, h2⟩ := h
  have hc := fun g (hg : v.ownBlock = some g) => h1.cells hg
  obtain ⟨_, ⟨rfl, h0⟩ | ⟨g, cap, cur, rfl, hb, hb2, _⟩⟩ := id h1
  · exact ⟨none, 0, by rw [h0], Or.inl h0⟩
  · refine ⟨some ⟨g, 0, none⟩, cap, rfl, Or.inr ⟨g, 0, rfl, rfl, lt_of_block hb2, fun i hi => ?_⟩⟩
    obtain ⟨a', c', e2, hV⟩ := h2 i hi
    have k1 := hc g rfl _ _ e2
    rw [Go.WideShapes.add_plain] at k1
    exact ⟨a', c', k1, hV⟩

/-- The cells of types. -/
theorem cells_ofT {w : World} {T S : Nat → Prop} {r : F} {ra : Option Addr} (h : TTop w T S r ra) : ∃ news : List Value, news.length = len r ∧ LS w news ra ∧ (∀ u ∈ news, u.oneCell' = true) ∧
    ∀ j, j < len r → ∃ a' c', news[j]? = some (.slice a' (len (kid r j)) c') ∧ SA w S (kid r j) a' := by
  rcases h with h | ⟨b, o, rfl, _, _, hk⟩
  · exact ⟨[], by rw [h]; rfl, Or.inl rfl, fun u hu => (by cases hu), fun j hj => by omega⟩
  · have key : ∀ n, n ≤ len r → ∃ news : List Value, news.length = n ∧ (∀ j u, news[j]? = some u → w.cell? ⟨b, o + j, none⟩ = some u) ∧ (∀ u ∈ news, u.oneCell' = true) ∧ ∀ j, j < n → ∃ a' c', news[j]? = some (.slice a' (len (kid r j)) c') ∧ SA w S (kid r j) a' := by
      intro n
      induction n with
      | zero => intro _; exact ⟨[], rfl, fun j u hu => by simp at hu, fun u hu => (by cases hu), fun j hj => by omega⟩
      | succ n ih =>
        intro hn
        obtain ⟨news, h1, h2, h3, h4⟩ := ih (by omega)
        obtain ⟨a', c', e2, hV⟩ := hk n (by omega)
        refine ⟨news ++ [.slice a' (len (kid r n)) c'], by simp [h1], fun j u hu => ?_, fun u hu => ?_, fun j hj => ?_⟩
        · by_cases ej : j < n
          · rw [List.getElem?_append_left (by omega)] at hu; exact h2 j u hu
          · rw [List.getElem?_append_right (by omega), h1] at hu
            have : j = n := by
              have hlt := (List.getElem?_eq_some_iff.1 hu).1
              simp at hlt; omega
            subst this
            rw [Nat.sub_self] at hu; simp at hu; subst hu; exact e2
        · rcases List.mem_append.1 hu with hu | hu
          · exact h3 u hu
          · simp only [List.mem_cons, List.not_mem_nil, or_false] at hu
            subst hu; rfl
        · by_cases ej : j < n
          · obtain ⟨b', d', f2, g⟩ := h4 j ej
            exact ⟨b', d', by rw [List.getElem?_append_left (by omega)]; exact f2, g⟩
          · have en : j = n := by omega
            subst en
            exact ⟨a', c', by rw [List.getElem?_append_right (by omega), h1, Nat.sub_self]; rfl, hV⟩
    obtain ⟨news, h1, h2, h3, h4⟩ := key (len r) (Nat.le_refl _)
    exact ⟨news, h1, Or.inr ⟨b, o, rfl, h2⟩, h3, h4⟩

/-- Types put behind types. -/
theorem wp_types {o : Oper} {a : Act} {w : World} {K : Act → World → Prop} {Q : Exit → Act → World → Prop} (s x : Operand)
    (ho : o.op = .call { callee := .builtin .append, args := #[s, x], argTypes := #[26, 26] }) (base : Nat) (hbase : base ≤ w.heap.size)
    (v : Value) (l : F) (S : Nat → Prop) (hs : a.eval s = v) (hR : RT w base S v l) (hS : ∀ b, S b → v.ownBlock ≠ some b) (r : F) (ra : Option Addr) (rc : Nat) (T : Nat → Prop) (hx : a.eval x = .slice ra (len r) rc) (hV : TTop w T S r ra) (h63 : len l + len r ≤ 1000000)
    (h : ∀ v' w', RT w' base (fun b => S b ∧ v'.ownBlock ≠ some b) v' (catT l r (len r)) → w.grownBy w' v.ownBlock → Moved w w' v v' → K (a.put o.dst v') w') : Oper.wp Tryz.prog o a w K Q := by
  obtain ⟨i0, hi, hz0, hz1, hz2⟩ := info_parts Tryz.info55
  obtain ⟨cs, h1, h2⟩ := hR
  obtain ⟨news, n1, n2, n3, n4⟩ := cells_ofT hV
  have hlen : cs.length = len l * 1 := h1.1
  refine wp_rows s x 26 ho 55 i0 _ 1 24 Tryz.underlying26 hi hz0 hz1 hz2 rfl (by omega) (by omega) base hbase v (len l) cs hs h1 ra rc (len r) news hx (by omega) n2 n3 h63 fun v' w' g1 g2 g3 => h v' w' ⟨_, by rw [catT_len]; exact g1, fun j hj => ?_⟩ g2 g3
  rw [catT_len] at hj
  have e2 := catT_at l r (len r) j hj
  rw [e2]
  have mv : ∀ (k : F) (a' : Option Addr), SA w S k a' → SA w' (fun b => S b ∧ v'.ownBlock ≠ some b) k a' := fun k a' hk => by
    have q1 := SA_mono (S' := fun b => S b ∧ b < w.heap.size) hk fun b hb hs => ⟨hs, hb⟩
    refine SA_mono (SA_ks q1 fun b hs hl => g2.block b hl fun e => hS b hs.1 e.symm) fun b _ hs => ⟨hs.1, fun e => ?_⟩
    rcases g3 with g | ⟨g, hg, hor, _⟩
    · rw [g] at e; exact hS b hs.1 e
    · rw [hg] at e; cases e
      rcases hor with h | h
      · exact hS _ hs.1 h
      · have := hs.2; omega
  by_cases ej : j < len l
  · rw [if_pos ej]
    obtain ⟨a', c', f2, hk⟩ := h2 j ej
    exact ⟨a', c', by rw [List.getElem?_append_left (by omega)]; exact f2, mv _ _ hk⟩
  · rw [if_neg ej]
    obtain ⟨a', c', f2, hk⟩ := n4 (j - len l) (by omega)
    exact ⟨a', c', by rw [List.getElem?_append_right (by omega), show j - cs.length = j - len l by omega]; exact f2, mv _ _ hk⟩

end Go.Proofs.YtgpdnoghlommeaaGreatDoor

namespace Go.Proofs.YtgpdnoghlommeaaGreatDoor

open Go.RowKit Go.Deep Go.Maps Go.WideMaps

attribute [local go_sem ↓] Go.wp_at_zero Go.wp_at_succ

abbrev nilK : ByteArray → F := fun _ => .nil
theorem setAll_yes {ns : List ByteArray} {l : F} {s : ByteArray} {i : Nat} (h : ((ns.getD i ⟨#[]⟩).toList == s.toList) = true) : setAll nilK ns l (i + 1) s = kid l i := by rw [setAll, setK, if_pos h]
theorem setAll_no {ns : List ByteArray} {l : F} {s : ByteArray} {i : Nat} (h : ((ns.getD i ⟨#[]⟩).toList == s.toList) = false) : setAll nilK ns l (i + 1) s = setAll nilK ns l i s := by rw [setAll, setK, if_neg (by rw [h]; simp)]

/-- The type of a name that is found. -/
def GtP (S : Nat → Prop) (f : F) (has : Bool) (w : World) (e : Ending) (w' : World) : Prop := ∃ a' c' b, e = .returned (.tuple #[.agg #[.slice a' (len f) c'], .bool b]) ∧ (has = true → b = true) ∧ SA w' S f a' ∧ Ex w w'

set_option maxRecDepth 100000 in
set_option maxHeartbeats 2000000 in
theorem getT_any (B : Nat) (T S : Nat → Prop) (ns : List ByteArray) (tl : F) (na ta : Option Addr) (nc tc : Nat) (s : ByteArray) (w : World) (hl : ns.length ≤ 1000000000) (hlen : len tl = ns.length) (hS : ∀ b, S b → b < w.heap.size)
    (h1 : w.cell? ⟨B, 0, none⟩ = some (.slice na ns.length nc)) (h2 : w.cell? ⟨B, 1, none⟩ = some (.slice ta (len tl) tc)) (hX : XA w 0 ns na) (hV : TTop w T S tl ta) :
    Calls Tryz.prog 106 #[.pointer (some ⟨B, 0, none⟩), .string s] w (GtP S (setAll nilK ns tl ns.length s) (hasB ns s) w) := by
  have X : Hid (∀ w', Ex w w' → XA w' 0 ns na) := fun _ h => XA_below hX h
  have V : Hid (∀ w', Ex w w' → TTop w' T S tl ta) := fun _ h => hV.ex h
  have HS : Hid (∀ b, S b → b < w.heap.size) := hS
  have HL : Hid (len tl = ns.length) := hlen
  have CB : Hid (∀ w', Ex w w' → w'.cell? ⟨B, 0, none⟩ = some (.slice na ns.length nc) ∧ w'.cell? ⟨B, 1, none⟩ = some (.slice ta (len tl) tc)) := fun w' h => ⟨h.at h1, h.at h2⟩
  have N : Hid (Ex w (w.alloc (.cells #[.slice none 0 0] 55))) := Ex.new _ _
  have zb : B < w.heap.size := World.block_lt_of_cell? _ _ h1
  have g1 := (Ex.new w (.cells #[.slice none 0 0] 55)).at h1
  obtain ⟨R, hR⟩ : ∃ R, R = setAll nilK ns tl ns.length s := ⟨_, rfl⟩
  have RR : Hid (R = setAll nilK ns tl ns.length s) := hR
  rw [← hR]
  obtain ⟨hb, hhb⟩ : ∃ hb, hb = hasB ns s := ⟨_, rfl⟩
  have HB : Hid (hb = hasB ns s) := hhb
  rw [← hhb]
  clear hX hV hS hlen hR h1 h2 hhb
  go_enter Tryz.func106, Tryz.ntmps106
  go_wp2_with fail
  go_loopw [6] (fun i wr => ∃ (j : Nat) (x : Int), j ≤ ns.length ∧ x = (j : Int) - 1 ∧ i = .int .i64 x ∧ R = setAll nilK ns tl j s ∧ (∀ i, j ≤ i → i < ns.length → ((ns.getD i ⟨#[]⟩).toList == s.toList) = false) ∧ Ex (w.alloc (.cells #[.slice none 0 0] 55)) wr) (fun i _ => (intOf i + 1).toNat)
  case atStart => exact ⟨ns.length, _, Nat.le_refl _, rfl, by go_num, RR.out, fun i h1 h2 => by omega, Ex.refl _⟩
  case round =>
    obtain ⟨j, x, hj, hx, rfl, hr, hno, hex⟩ := hrel
    have XJ : Hid (x = (j : Int) - 1) := hx
    have RJ : Hid (R = setAll nilK ns tl j s) := hr
    have E : Hid (Ex (w.alloc (.cells #[.slice none 0 0] 55)) wr) := hex
    have J : Hid (j ≤ ns.length) := hj
    have NO : Hid (∀ i, j ≤ i → i < ns.length → ((ns.getD i ⟨#[]⟩).toList == s.toList) = false) := hno
    have hob : wr.heap[w.heap.size]? = some (.cells #[.slice none 0 0] 55 (0, 0)) := hex.blk (heap_alloc_at _ _ (by simp))
    have r0 := cell_of_one hob
    have r2 := free_of_one hob
    have OB : Hid _ := hob
    obtain ⟨p1, p2⟩ := CB.out wr (N.out.trans E.out)
    cases j with
    | zero =>
      have hx1 : x = -1 := by omega
      clear hx hr hex hj hob XJ hno
      subst hx1
      have HR : Hid (R = .nil) := RJ.out
      have HN : Hid (hb = false) := HB.out.trans (hasB_no fun i hi => NO.out i (Nat.zero_le _) hi)
      go_wp2_with fail
      have s0 := World.cell?_setCell_same wr ⟨w.heap.size, 0, none⟩ (.slice none 0 0) r0
      refine bodyPost_ret (v := .tuple #[.agg #[.slice none 0 0], .bool false]) (by simp [results, Tryz.results106, go_sem, s0]) rfl ?_
      rw [HR.out]
      exact ⟨none, 0, false, rfl, fun h => (by rw [HN.out] at h; cases h), Or.inl rfl, (N.out.trans E.out).set (by exact Nat.le_refl _) _⟩
    | succ j =>
      have hxj : x = (j : Int) := by omega
      clear hx hr hex hob XJ hno
      subst hxj
      obtain ⟨b, o, rfl, hbs, _, hc⟩ := XA_at (X.out wr (N.out.trans E.out)) (by omega)
      have ck := hc j (by omega)
      obtain ⟨b', o', rfl, _, _, hk⟩ := TTop.at0 (V.out wr (N.out.trans E.out)) (by have := HL.out; omega)
      obtain ⟨a', c', v1c, hV'⟩ := hk j (by have := HL.out; omega)
      have VK : Hid (SA wr S (kid tl j) a') := hV'
      have i0 : (0 : Int) ≤ (j : Int) := by omega
      have i1 : (j : Int) < (ns.length : Int) := by omega
      have i2 : (j : Int) < (len tl : Int) := by have := HL.out; omega
      have Y : Hid (((ns.getD j ⟨#[]⟩).toList == s.toList) = true → R = kid tl j) := fun h => RJ.out.trans (setAll_yes h)
      have U : Hid (((ns.getD j ⟨#[]⟩).toList == s.toList) = false → R = setAll nilK ns tl j s) := fun h => RJ.out.trans (setAll_no h)
      have NX : Hid (((ns.getD j ⟨#[]⟩).toList == s.toList) = false → ∀ i, j ≤ i → i < ns.length → ((ns.getD i ⟨#[]⟩).toList == s.toList) = false) := fun h i h1 h2 => by
        by_cases e : i = j
        · rw [e]; exact h
        · exact NO.out i (by omega) h2
      obtain ⟨t, ht⟩ : ∃ t, ns.getD j ⟨#[]⟩ = t := ⟨_, rfl⟩
      rw [ht] at ck Y U NX
      clear hc ht hk hV' RJ
      cases he : t.toList == s.toList with
      | true =>
        have HR : Hid (R = kid tl j) := Y.out he
        go_wp2_with fail
        have s0 := World.cell?_setCell_same wr ⟨w.heap.size, 0, none⟩ (.slice a' (len (kid tl j)) c') r0
        refine bodyPost_ret (v := .tuple #[.agg #[.slice a' (len (kid tl j)) c'], .bool true]) (by simp [results, Tryz.results106, go_sem, s0]) rfl ?_
        rw [HR.out]
        refine ⟨a', c', true, rfl, fun _ => rfl, SA_ks VK.out fun b hb _ => ?_, (N.out.trans E.out).set (by exact Nat.le_refl _) _⟩
        have := HS.out b hb
        rw [Below.heap_setCell _ _ _ _ (by show b ≠ w.heap.size; omega)]
      | false =>
        have HU : Hid _ := U.out he
        have HX : Hid _ := NX.out he
        go_wp2_with fail
        go_roundw
        case rel => exact ⟨j, (j : Int) - 1, by omega, rfl, by go_num, HU.out, HX.out, E.out⟩
        case measure => simp [intOf]

end Go.Proofs.YtgpdnoghlommeaaGreatDoor
