/- What functions say, without the program. Worlds in which only blocks of a set have turned. What the specification keeps while it runs a body: names and values in rows of its own. Rows put behind what is owned, wherever that stands. Walks: a type of the laws turned into one of the program. Walks: numbers copied, compared and written over; types gone through by the exact laws. Cells of a block, set one behind the other. -/
import Derived.Test.YtldbmlojgakieaaGreatDoorGPRN
import Derived.Test.YtldbmlojgakieaaGreatDoorBD6
import Derived.Test.YtldbmlojgakieaaGreatDoorGW5
import Derived.Test.YtldbmlojgakieaaGreatDoorGPR10
import Derived.Test.YtldbmlojgakieaaGreatDoorGTM3
namespace Go.Proofs.YtldbmlojgakieaaGreatDoor

open Go.RowKit Go.Deep Go.Maps Go.WideMaps

abbrev Env := ByteArray → Int × F
abbrev Call := ByteArray → F → Option F

/-- What names stand for, some bound anew. -/
def setAllE (L : Env) (ns : List ByteArray) (l : F) : Nat → Env
  | 0 => L
  | k + 1 => setE (setAllE L ns l k) (ns.getD k ⟨#[]⟩) (num l k, kid l k)
def noE : Env := fun _ => (0, .nil)

/-- What a binding gives its names to. -/
def kindV (call : Call) (rec : Env → BD → TM → Option F) (L : Env) (k : Int) (fn : ByteArray) (tb : BD) (tz : TM) (eb : BD) (ez : TM) (l : F) : Option F :=
  if k = 2 then call fn l else if k = 3 then (if len (kid l 0) = 0 then (if num l 0 = 0 then rec L eb ez else rec L tb tz) else none) else some l
def bindV (call : Call) (rec : Env → BD → TM → Option F) (L : Env) (b : BD) (i : Nat) : Option F :=
  (evL L (bterms b i)).bind fun l => kindV call rec L (bkind b i) (bfn b i) (bthen b i) (btsay b i) (belse b i) (besay b i) l
/-- What names stand for behind so many bindings. -/
def envV (call : Call) (rec : Env → BD → TM → Option F) (L : Env) (b : BD) : Nat → Option Env
  | 0 => some L
  | i + 1 => (envV call rec L b i).bind fun L' => (bindV call rec L' b i).bind fun l => some (setAllE L' (bnames b i) l (bnames b i).length)
/-- What a body says, at most so deep. -/
def bodyV (call : Call) : Nat → Env → BD → TM → Option F
  | 0, _, _, _ => none
  | d + 1, L, b, z => (envV call (bodyV call d) L b (blen b)).bind fun L' => evL L' z
/-- What a function says. -/
def fnV (l : List PM) (call : Call) (i : Nat) (v : F) : Option F :=
  bodyV call 6 (setAllE noE (l.getD i pm0).params v (l.getD i pm0).params.length) (l.getD i pm0).binds (l.getD i pm0).says
/-- What a call of one of the first functions says. -/
def callV (l : List PM) : Nat → Call
  | 0, _, _ => none
  | m + 1, s, v => if ((l.getD m pm0).name.toList == s.toList) = true then fnV l (callV l m) m v else callV l m s v

theorem bodyB_yes {fs : List PM} {d : Nat} {ns : List ByteArray} {b : BD} {z : TM} (h : bodyB fs (d + 1) ns b z = true) : blen b ≤ 400 ∧ (∀ i, i < blen b → bindAt fs (bodyB fs d) ns b i = true) ∧ termsB (nsAt ns b (blen b)) z = true := by
  simp only [bodyB, Bool.and_eq_true, decide_eq_true_eq, List.all_eq_true, List.mem_range] at h
  exact ⟨h.1, h.2.1, h.2.2⟩
theorem bindB_yes {fs : List PM} {rec : List ByteArray → BD → TM → Bool} {ns : List ByteArray} {k : Int} {nm : List ByteArray} {fn : ByteArray} {ts : TM} {tb : BD} {tz : TM} {eb : BD} {ez : TM} (h : bindB fs rec ns k nm fn ts tb tz eb ez = true) :
    nm.length ≤ 60 ∧ termsB ns ts = true ∧ uniqB nm = true ∧ ((k = 1 ∧ nm.length = 1 ∧ tlen ts = 1) ∨ (k = 2 ∧ (arityR fs fn).2.2 = true ∧ (arityR fs fn).1 = tlen ts ∧ (arityR fs fn).2.1 = nm.length) ∨ (k = 3 ∧ tlen ts = 1 ∧ rec ns tb tz = true ∧ rec ns eb ez = true ∧ tlen tz = nm.length ∧ tlen ez = nm.length)) := by
  simp only [bindB, Bool.and_eq_true, decide_eq_true_eq] at h
  obtain ⟨⟨h1, h2⟩, h3, h4⟩ := h
  refine ⟨h1, h2, h3, ?_⟩
  by_cases k1 : k = 1
  · subst k1
    simp only [kindB_1, Bool.and_eq_true, decide_eq_true_eq] at h4
    exact Or.inl ⟨rfl, h4.2.2.1, h4.2.2.2⟩
  by_cases k2 : k = 2
  · subst k2
    simp only [kindB_2, Bool.and_eq_true, decide_eq_true_eq] at h4
    exact Or.inr (Or.inl ⟨rfl, h4.2.1, h4.2.2.1, h4.2.2.2⟩)
  by_cases k3 : k = 3
  · subst k3
    simp only [kindB_3, Bool.and_eq_true, decide_eq_true_eq] at h4
    exact Or.inr (Or.inr ⟨rfl, h4.2.1, h4.2.2.1, h4.2.2.2.1, h4.2.2.2.2.1, h4.2.2.2.2.2⟩)
  · rw [kindB_o k1 k2 k3] at h4; cases h4
theorem termsB_kids {ns : List ByteArray} {f : TM} (h : termsB ns f = true) : tlen f ≤ 60 ∧ kidsB ns 8 f = true := by
  simp only [termsB, Bool.and_eq_true, decide_eq_true_eq] at h
  exact ⟨h.1, h.2⟩
theorem pureAt_yes {l : List PM} {i : Nat} (h : pureAt l i = true) : (arityR (l.take i) (l.getD i pm0).name).2.2 = false ∧ wordB (l.getD i pm0).name = true ∧ (l.getD i pm0).params.length ≤ 60 ∧ bodyB (l.take i) 6 (l.getD i pm0).params (l.getD i pm0).binds (l.getD i pm0).says = true ∧ uniqB (l.getD i pm0).params = true := by
  simp only [pureAt, Bool.and_eq_true, decide_eq_true_eq, Bool.not_eq_true'] at h
  exact ⟨h.1, h.2.1, h.2.2.1, h.2.2.2.1, h.2.2.2.2⟩

/-- All names stand for values that are of a type. -/
def tyE (L : Env) : Prop := ∀ s, tyV (L s)
theorem tyE_no : tyE noE := fun _ => ty_int ⟨by omega, by omega⟩
theorem tyE_set {L : Env} {s : ByteArray} {v : Int × F} (h : tyE L) (hv : tyV v) : tyE (setE L s v) := fun t => by
  unfold setE
  split
  · exact hv
  · exact h t
theorem tyE_all {L : Env} {ns : List ByteArray} {l : F} (h : tyE L) (hl : tyL l) : ∀ k, k ≤ len l → tyE (setAllE L ns l k)
  | 0, _ => h
  | k + 1, hk => tyE_set (tyE_all h hl k (by omega)) (hl k (by omega))

/-- Calls say what the function does. -/
def okCall (fs : List PM) (call : Call) : Prop := ∀ s v r, (arityR fs s).2.2 = true → len v = (arityR fs s).1 → tyL v → call s v = some r → tyL r ∧ len r = (arityR fs s).2.1
def okRec (rec : Env → BD → TM → Option F) (recB : List ByteArray → BD → TM → Bool) : Prop := ∀ ns L b z r, recB ns b z = true → tyE L → rec L b z = some r → tyL r ∧ len r = tlen z

theorem bind_ty {fs : List PM} {call : Call} {rec : Env → BD → TM → Option F} {recB : List ByteArray → BD → TM → Bool} (hc : okCall fs call) (hr : okRec rec recB) {ns : List ByteArray} {L : Env} {b : BD} {i : Nat} {r : F} (h : bindB fs recB ns (bkind b i) (bnames b i) (bfn b i) (bterms b i) (bthen b i) (btsay b i) (belse b i) (besay b i) = true) (hL : tyE L) (e : bindV call rec L b i = some r) : tyL r ∧ len r = (bnames b i).length := by
  obtain ⟨_, h2, _, h4⟩ := bindB_yes h
  obtain ⟨_, h5⟩ := termsB_kids h2
  unfold bindV at e
  cases he : evL L (bterms b i) with
  | none => rw [he] at e; cases e
  | some l =>
    rw [he] at e
    have hl := ev_ty hL ns 8 _ h5 l he
    have hn := evL_len he
    simp only [Option.bind_some, kindV] at e
    rcases h4 with ⟨k1, n1, t1⟩ | ⟨k2, a1, a2, a3⟩ | ⟨k3, t1, r1, r2, n1, n2⟩
    · rw [k1] at e
      cases e
      exact ⟨hl, by omega⟩
    · rw [if_pos k2] at e
      have := hc _ _ _ a1 (by omega) hl e
      exact ⟨this.1, by omega⟩
    · rw [if_neg (by omega), if_pos k3] at e
      split at e
      · split at e
        · have := hr _ _ _ _ _ r2 hL e; exact ⟨this.1, by omega⟩
        · have := hr _ _ _ _ _ r1 hL e; exact ⟨this.1, by omega⟩
      · cases e
theorem env_ty {fs : List PM} {call : Call} {d : Nat} (hc : okCall fs call) (hr : okRec (bodyV call d) (bodyB fs d)) {ns : List ByteArray} {L : Env} {b : BD} (h : ∀ i, i < blen b → bindAt fs (bodyB fs d) ns b i = true) (hL : tyE L) : ∀ j, j ≤ blen b → ∀ L', envV call (bodyV call d) L b j = some L' → tyE L'
  | 0, _, L', e => by cases e; exact hL
  | j + 1, hj, L', e => by
    rw [envV] at e
    cases h1 : envV call (bodyV call d) L b j with
    | none => rw [h1] at e; cases e
    | some L1 =>
      rw [h1] at e
      simp only [Option.bind_some] at e
      have t1 := env_ty hc hr h hL j (by omega) L1 h1
      cases h2 : bindV call (bodyV call d) L1 b j with
      | none => rw [h2] at e; cases e
      | some l =>
        rw [h2] at e; cases e
        obtain ⟨t2, n2⟩ := bind_ty hc hr (h j (by omega)) t1 h2
        exact tyE_all t1 t2 _ (by omega)
theorem body_ty {fs : List PM} {call : Call} (hc : okCall fs call) : ∀ d, okRec (bodyV call d) (bodyB fs d)
  | 0 => fun _ _ _ _ _ h _ _ => by cases h
  | d + 1 => fun ns L b z r h hL e => by
    obtain ⟨_, h2, h3⟩ := bodyB_yes h
    rw [bodyV] at e
    cases h1 : envV call (bodyV call d) L b (blen b) with
    | none => rw [h1] at e; cases e
    | some L' =>
      rw [h1] at e
      simp only [Option.bind_some] at e
      have t := env_ty hc (body_ty hc d) h2 hL _ (Nat.le_refl _) L' h1
      exact ⟨ev_ty t _ 8 _ (termsB_kids h3).2 _ e, evL_len e⟩

/-- The index of a function by its name. -/
theorem arity_find {l : List PM} {m : Nat} (hm : m ≤ l.length) {s : ByteArray} (h : (arityR (l.take m) s).2.2 = true) : ∃ i, i < m ∧ ((l.getD i pm0).name.toList == s.toList) = true ∧ (∀ j, j < i → ((l.getD j pm0).name.toList == s.toList) = false) ∧ arityR (l.take m) s = ((l.getD i pm0).params.length, tlen (l.getD i pm0).says, true) := by
  have key : ∀ k, k ≤ m → (∀ j, j < k → ((l.getD j pm0).name.toList == s.toList) = false) ∨ ∃ i, i < k ∧ ((l.getD i pm0).name.toList == s.toList) = true ∧ ∀ j, j < i → ((l.getD j pm0).name.toList == s.toList) = false := by
    intro k
    induction k with
    | zero => intro _; exact Or.inl fun j hj => by omega
    | succ k ih =>
      intro hk
      rcases ih (by omega) with h1 | ⟨i, h1, h2⟩
      · cases e : (l.getD k pm0).name.toList == s.toList with
        | true => exact Or.inr ⟨k, by omega, e, h1⟩
        | false =>
          refine Or.inl fun j hj => ?_
          by_cases ej : j = k
          · rw [ej]; exact e
          · exact h1 j (by omega)
      · exact Or.inr ⟨i, by omega, h2⟩
  rcases key m (Nat.le_refl _) with h1 | ⟨i, h1, h2, h3⟩
  · rw [arity_no hm h1] at h; cases h
  · exact ⟨i, h1, h2, h3, arity_yes (by omega) h1 h3 h2⟩
theorem names_apart {l : List PM} {i k : Nat} (hk : k < l.length) (h : pureAt l k = true) (hi : i < k) {s : ByteArray} (hs : ((l.getD i pm0).name.toList == s.toList) = true) : ((l.getD k pm0).name.toList == s.toList) = false := by
  cases e : (l.getD k pm0).name.toList == s.toList with
  | false => rfl
  | true =>
    exfalso
    have h1 := (pureAt_yes h).1
    have e1 : (l.getD i pm0).name.toList = (l.getD k pm0).name.toList := (beq_iff_eq.1 hs).trans (beq_iff_eq.1 e).symm
    have key : ∀ (q : List PM), i < q.length → (∀ j, j < q.length → q.getD j pm0 = l.getD j pm0) → (arityR q (l.getD k pm0).name).2.2 = true := by
      intro q hq he
      unfold arityR
      cases hf : q.find? (fun f => f.name.toList == (l.getD k pm0).name.toList) with
      | some f => rfl
      | none =>
        rw [List.find?_eq_none] at hf
        have := hf (q.getD i pm0) (by rw [List.getD_eq_getElem?_getD, List.getElem?_eq_getElem hq]; exact List.getElem_mem _)
        rw [he i hq, e1] at this
        simp at this
    rw [key (l.take k) (by rw [List.length_take]; omega) fun j hj => by rw [List.length_take] at hj; rw [List.getD_eq_getElem?_getD, List.getElem?_take_of_lt (by omega), ← List.getD_eq_getElem?_getD]] at h1
    cases h1
theorem callV_at {l : List PM} {s : ByteArray} {v : F} {i : Nat} (hi : ((l.getD i pm0).name.toList == s.toList) = true) : ∀ m, m ≤ l.length → (∀ j, j < m → pureAt l j = true) → i < m → callV l m s v = fnV l (callV l i) i v
  | 0, _, _, h => by omega
  | m + 1, hm, hp, h => by
    rw [callV]
    by_cases e : i = m
    · subst e; rw [if_pos hi]
    · rw [if_neg (by rw [names_apart (by omega) (hp m (by omega)) (by omega) hi]; simp)]
      exact callV_at hi m (by omega) (fun j hj => hp j (by omega)) (by omega)
theorem okCall_at {l : List PM} : ∀ m, m ≤ l.length → (∀ j, j < m → pureAt l j = true) → okCall (l.take m) (callV l m) := by
  intro m
  induction m using Nat.strongRecOn with
  | _ m ih =>
    intro hm hp s v r ha hv ht e
    obtain ⟨i, h1, h2, _, h4⟩ := arity_find hm ha
    rw [callV_at h2 m hm hp h1] at e
    rw [h4] at hv ⊢
    exact body_ty (ih i h1 (by omega) fun j hj => hp j (by omega)) 6 _ _ _ _ _ (pureAt_yes (hp i h1)).2.2.2.1 (tyE_all tyE_no ht _ (by rw [hv]; exact Nat.le_refl _)) e

end Go.Proofs.YtldbmlojgakieaaGreatDoor

namespace Go.Proofs.YtldbmlojgakieaaGreatDoor

open Go.RowKit Go.Deep

/-- Of what was there only blocks of S have turned. -/
structure FrS (S : Nat → Prop) (w w' : World) : Prop where
  os : w'.os = w.os
  tape : w'.tape = w.tape
  output : w'.output = w.output
  size : w.heap.size ≤ w'.heap.size
  block : ∀ k, k < w.heap.size → ¬ S k → w'.heap[k]? = w.heap[k]?
theorem FrS.refl (S : Nat → Prop) (w : World) : FrS S w w := ⟨rfl, rfl, rfl, Nat.le_refl _, fun _ _ _ => rfl⟩
theorem FrS.trans {S : Nat → Prop} {a b c : World} (h : FrS S a b) (k : FrS S b c) : FrS S a c :=
  ⟨k.os.trans h.os, k.tape.trans h.tape, k.output.trans h.output, Nat.le_trans h.size k.size, fun i hi hn => (k.block i (Nat.lt_of_lt_of_le hi h.size) hn).trans (h.block i hi hn)⟩
theorem FrS.mono {S T : Nat → Prop} {a b : World} (h : FrS S a b) (hs : ∀ k, S k → T k) : FrS T a b := ⟨h.os, h.tape, h.output, h.size, fun k hk hn => h.block k hk fun hh => hn (hs k hh)⟩
theorem FrS.of_ex {S : Nat → Prop} {a b : World} (h : Ex a b) : FrS S a b := ⟨h.os, h.tape, h.output, h.size, fun k hk _ => h.block k hk⟩
theorem FrS.set {S : Nat → Prop} {a b : World} (h : FrS S a b) {p : Addr} (hp : S p.block) (v : Value) : FrS S a (b.setCell p v) :=
  ⟨h.os, h.tape, h.output, by rw [World.size_setCell]; exact h.size, fun k hk hn => by rw [Below.heap_setCell _ _ _ _ (fun e => hn (by rw [e]; exact hp))]; exact h.block k hk hn⟩
theorem FrS.at {S : Nat → Prop} {a b : World} (h : FrS S a b) {p : Addr} {v : Value} (hn : ¬ S p.block) (hc : a.cell? p = some v) : b.cell? p = some v :=
  (World.cell?_of_block (w := a) (h.block _ (World.block_lt_of_cell? _ _ hc) hn)).trans hc

theorem FrS.to_ex {S : Nat → Prop} {w a b : World} (h : FrS S a b) (hx : Ex w a) (hS : ∀ k, S k → w.heap.size ≤ k) : Ex w b :=
  ⟨h.os.trans hx.os, h.tape.trans hx.tape, h.output.trans hx.output, Nat.le_trans hx.size h.size, fun k hk => (h.block k (Nat.lt_of_lt_of_le hk hx.size) fun hs => by have := hS k hs; omega).trans (hx.block k hk)⟩

end Go.Proofs.YtldbmlojgakieaaGreatDoor

namespace Go.Proofs.YtldbmlojgakieaaGreatDoor

open Go.RowKit Go.Deep Go.Maps Go.WideMaps

attribute [local go_sem ↓] Go.wp_at_zero Go.wp_at_succ

/-- Values behind values. -/
def catF (l r : F) : Nat → F
  | 0 => l
  | k + 1 => snoc (catF l r k) (num r k) (kid r k)
theorem catF_len (l r : F) : ∀ k, len (catF l r k) = len l + k
  | 0 => rfl
  | k + 1 => by rw [catF, len_snoc, catF_len l r k]; omega
theorem catF_at (l r : F) : ∀ k i, i < len l + k → num (catF l r k) i = (if i < len l then num l i else num r (i - len l)) ∧ kid (catF l r k) i = (if i < len l then kid l i else kid r (i - len l))
  | 0, i, h => by rw [if_pos (by omega), if_pos (by omega)]; exact ⟨rfl, rfl⟩
  | k + 1, i, h => by
    rw [catF, num_snoc, kid_snoc, catF_len]
    by_cases e : i < len l + k
    · rw [if_pos e, if_pos e]; exact catF_at l r k i e
    · have ei : i = len l + k := by omega
      rw [if_neg e, if_neg e, if_pos ei, if_pos ei, if_neg (by omega), if_neg (by omega), show i - len l = k by omega]
      exact ⟨rfl, rfl⟩
theorem tyL_cat {l r : F} (hl : tyL l) (hr : tyL r) : ∀ k, k ≤ len r → tyL (catF l r k)
  | 0, _ => hl
  | k + 1, hk => tyL_snoc (tyL_cat hl hr k (by omega)) (hr k (by omega))

/-- What names stand for, of which the last one counts. -/
def envOf (ns : List ByteArray) (vs : F) : Env := fun s => getE ns vs s ns.length
theorem getE_lo {ns ms : List ByteArray} {vs r : F} {s : ByteArray} {k : Nat} : ∀ i, i ≤ ns.length → i ≤ len vs → getE (ns ++ ms) (catF vs r k) s i = getE ns vs s i
  | 0, _, _ => rfl
  | i + 1, h, h' => by
    have e : (ns ++ ms).getD i ⟨#[]⟩ = ns.getD i ⟨#[]⟩ := by
      rw [List.getD_eq_getElem?_getD, List.getD_eq_getElem?_getD, List.getElem?_append_left (by omega)]
    obtain ⟨e1, e2⟩ := catF_at vs r k i (by omega)
    rw [if_pos (by omega)] at e1 e2
    rw [getE, getE, e, e1, e2, getE_lo i (by omega) (by omega)]
theorem getE_cat {ns ms : List ByteArray} {vs r : F} {s : ByteArray} (hl : len vs = ns.length) : ∀ k, k ≤ ms.length → k ≤ len r → getE (ns ++ ms) (catF vs r (len r)) s (ns.length + k) = setAllE (envOf ns vs) ms r k s
  | 0, _, _ => getE_lo ns.length (Nat.le_refl _) (by omega)
  | k + 1, h, h' => by
    have e : (ns ++ ms).getD (ns.length + k) ⟨#[]⟩ = ms.getD k ⟨#[]⟩ := by
      rw [List.getD_eq_getElem?_getD, List.getD_eq_getElem?_getD, List.getElem?_append_right (by omega), show ns.length + k - ns.length = k by omega]
    obtain ⟨e1, e2⟩ := catF_at vs r (len r) (ns.length + k) (by omega)
    show getE (ns ++ ms) _ s (ns.length + k + 1) = setE _ _ _ s
    rw [if_neg (by omega), show ns.length + k - len vs = k by omega] at e1 e2
    rw [getE, e, e1, e2, getE_cat hl k (by omega) (by omega), setE]
theorem envOf_cat {ns ms : List ByteArray} {vs r : F} (hl : len vs = ns.length) (hr : len r = ms.length) : envOf (ns ++ ms) (catF vs r (len r)) = setAllE (envOf ns vs) ms r ms.length := by
  funext s
  show getE _ _ s (ns ++ ms).length = _
  rw [List.length_append]
  exact getE_cat hl ms.length (Nat.le_refl _) (by omega)
/-- Params given values. -/
theorem getE_nil {ms : List ByteArray} {r : F} {s : ByteArray} : ∀ k, getE ms r s k = setAllE noE ms r k s
  | 0 => rfl
  | k + 1 => by rw [getE, setAllE, setE, getE_nil k]
theorem envOf_all {ms : List ByteArray} {r : F} : envOf ms r = setAllE noE ms r ms.length := funext fun _ => getE_nil _

/-- A row of values of one's own, what is behind them in S. -/
def RV (w : World) (base : Nat) (S : Nat → Prop) (v : Value) (l : F) : Prop := ∃ cs, w.ownsRow base 55 2 v (len l) cs ∧
  ∀ j, j < len l → cs[j * 2]? = some (.int .i64 (num l j)) ∧ ∃ a' c', cs[j * 2 + 1]? = some (.slice a' (len (kid l j)) c') ∧ VS w S (kid l j) a'
theorem VR.rv {w : World} {base base' : Nat} {S S' : Nat → Prop} {v : Value} {l : F} (h : VR w base S v l) (hb : base' ≤ base) (hS : ∀ b, b < w.heap.size → (S b ∨ base ≤ b) → v.ownBlock ≠ some b → S' b) : RV w base' S' v l := by
  obtain ⟨cs, ⟨h0, h1⟩, h2⟩ := h
  refine ⟨cs, ⟨h0, ?_⟩, fun j hj => ?_⟩
  · rcases h1 with h1 | ⟨g, cap, cur, e, hg, h3⟩
    · exact Or.inl h1
    · exact Or.inr ⟨g, cap, cur, e, Nat.le_trans hb hg, h3⟩
  · obtain ⟨e, a', c', e2, hV⟩ := h2 j hj
    exact ⟨e, a', c', e2, VS_mono hV fun b hl hs => hS b hl hs.1 hs.2⟩
theorem RV.top {w : World} {base : Nat} {S : Nat → Prop} {v : Value} {l : F} (h : RV w base S v l) : ∃ a c, v = .slice a (len l) c ∧ VTop w (fun b => v.ownBlock = some b) S l a := by
  obtain ⟨cs, h1, h2⟩ := h
  have hc := fun g (hg : v.ownBlock = some g) => h1.cells hg
  obtain ⟨_, ⟨rfl, h0⟩ | ⟨g, cap, cur, rfl, hb, hb2, _⟩⟩ := id h1
  · exact ⟨none, 0, by rw [h0], Or.inl h0⟩
  · refine ⟨some ⟨g, 0, none⟩, cap, rfl, Or.inr ⟨g, 0, rfl, rfl, lt_of_block hb2, fun i hi => ?_⟩⟩
    obtain ⟨e, a', c', e2, hV⟩ := h2 i hi
    have k0 := hc g rfl _ _ e
    have k1 := hc g rfl _ _ e2
    rw [Go.WideShapes.add_plain] at k0 k1
    exact ⟨k0, a', c', by rw [Nat.add_assoc]; exact k1, hV⟩
theorem row_fr {w w' : World} {base n size : Nat} {e : TypeId} {v : Value} {xs : List Value} (h : w.ownsRow base e size v n xs) (hk : ∀ g, v.ownBlock = some g → w'.heap[g]? = w.heap[g]?) : w'.ownsRow base e size v n xs := by
  obtain ⟨h0, h1⟩ := h
  refine ⟨h0, ?_⟩
  rcases h1 with h1 | ⟨g, cap, cur, e, hg, hc, h3⟩
  · exact Or.inl h1
  · exact Or.inr ⟨g, cap, cur, e, hg, (hk g (by rw [e]; rfl)).trans hc, h3⟩
theorem RV.keep {w w' : World} {base : Nat} {S : Nat → Prop} {v : Value} {l : F} (h : RV w base S v l) (hk : ∀ g, v.ownBlock = some g → w'.heap[g]? = w.heap[g]?) (hS : ∀ b, b < w.heap.size → S b → w'.heap[b]? = w.heap[b]?) : RV w' base S v l := by
  obtain ⟨cs, h1, h2⟩ := h
  refine ⟨cs, row_fr h1 hk, fun j hj => ?_⟩
  obtain ⟨e, a', c', e2, hV⟩ := h2 j hj
  exact ⟨e, a', c', e2, VS_ks hV fun b hs hl => hS b hl hs⟩
theorem RV.mono {w : World} {base : Nat} {S S' : Nat → Prop} {v : Value} {l : F} (h : RV w base S v l) (hS : ∀ b, b < w.heap.size → S b → S' b) : RV w base S' v l := by
  obtain ⟨cs, h1, h2⟩ := h
  refine ⟨cs, h1, fun j hj => ?_⟩
  obtain ⟨e, a', c', e2, hV⟩ := h2 j hj
  exact ⟨e, a', c', e2, VS_mono hV hS⟩

/-- The blocks of an environment, and what is outside of these. -/
def Own3 (B : Nat) (nv vv : Value) (b : Nat) : Prop := b = B ∨ nv.ownBlock = some b ∨ vv.ownBlock = some b
def Out3 (X : Nat → Prop) (B : Nat) (nv vv : Value) (b : Nat) : Prop := ¬ X b ∧ ¬ Own3 B nv vv b

/-- An environment: its four cells, its names and its values in rows of their own. -/
structure EnvAt (w : World) (base B : Nat) (X : Nat → Prop) (lv : Value) (ns : List ByteArray) (vs : F) (bad : Bool) (nv vv : Value) : Prop where
  cells : EB w B lv nv vv bad
  lo : base ≤ B
  names : w.ownsRow base 9 1 nv ns.length (ns.map Value.string)
  vals : RV w base (Out3 X B nv vv) vv vs
  nB : nv.ownBlock ≠ some B
  vB : vv.ownBlock ≠ some B
  nv : ∀ g, nv.ownBlock = some g → vv.ownBlock ≠ some g

/-- Nothing of an environment is touched but its flag. -/
theorem EnvAt.fr {w w' : World} {base B : Nat} {X : Nat → Prop} {lv : Value} {ns : List ByteArray} {vs : F} {bad bad' : Bool} {nv vv : Value} (h : EnvAt w base B X lv ns vs bad nv vv) (hf : Fr B w w') (he : EB w' B lv nv vv bad') : EnvAt w' base B X lv ns vs bad' nv vv := by
  have nl : ∀ g, nv.ownBlock = some g → w'.heap[g]? = w.heap[g]? := fun g hg => hf.block g ((h.names.lt g hg).2) fun e => h.nB (e ▸ hg)
  obtain ⟨cs, hr, hv⟩ := id h.vals
  exact ⟨he, h.lo, row_fr h.names nl, h.vals.keep (fun g hg => hf.block g ((hr.lt g hg).2) fun e => h.vB (e ▸ hg)) fun b hl hs => hf.block b hl fun e => hs.2 (Or.inl e), h.nB, h.vB, h.nv⟩

end Go.Proofs.YtldbmlojgakieaaGreatDoor

namespace Go.Proofs.YtldbmlojgakieaaGreatDoor

open Go.RowKit Go.Deep Go.Maps Go.WideMaps

/-- The new row's block: the same, or a new one. -/
def Moved (w w' : World) (v v' : Value) : Prop := v'.ownBlock = v.ownBlock ∨ ∃ g, v'.ownBlock = some g ∧ (v.ownBlock = some g ∨ g = w.heap.size) ∧ g < w'.heap.size

theorem step_of_wp {P : Program} {ops : Array Oper} {o : Oper} {a : Act} {w : World} {K : Act → World → Prop} {Q : Exit → Act → World → Prop} {E : Prop} (hg : o.guard = none) (h : Oper.wp P o a w K Q) :
    if Region.wanted o (yielded ops a.tmps) = true then Oper.wp P o a w K Q else E := by
  rw [if_pos (by simp [Region.wanted, hg])]; exact h

set_option maxHeartbeats 1000000 in
theorem wp_rows {P : Program} {o : Oper} {a : Act} {w : World} {K : Act → World → Prop} {Q : Exit → Act → World → Prop} (s x : Operand) (t : TypeId)
    (ho : o.op = .call { callee := .builtin .append, args := #[s, x], argTypes := #[t, t] }) (e : TypeId) (i : TypeInfo) (z : Value) (size bytes : Nat) (ht : P.underlying t = some (.slice e)) (hi : P.info? e = some i) (hz : i.zero = some z)
    (hsize : i.size = size) (hby : i.bytes = bytes) (hzs : z.cells.size = size) (hsz : 0 < size) (hb64 : bytes ≤ 64) (base : Nat) (hbase : base ≤ w.heap.size)
    (v : Value) (n : Nat) (xs : List Value) (hs : a.eval s = v) (hown : w.ownsRow base e size v n xs)
    (pa : Option Addr) (pc m : Nat) (news : List Value) (hx : a.eval x = .slice pa m pc) (hm : news.length = m * size) (hL : LS w news pa) (h1 : ∀ u ∈ news, u.oneCell' = true) (h63 : n + m ≤ 1000000)
    (h : ∀ v' w', w'.ownsRow base e size v' (n + m) (xs ++ news) → w.grownBy w' v.ownBlock → Moved w w' v v' → K (a.put o.dst v') w') : Oper.wp P o a w K Q := by
  by_cases h0 : m = 0
  · subst h0
    have hn : news = [] := List.length_eq_zero_iff.mp (by omega)
    subst hn
    have hrun := run_append_zero (P := P) (w := w) base t o.type e i size ht hi v n xs hown pa pc
    unfold Oper.wp
    simp [execOp, ho, resolve, invoke, builtin, hs, hx, hrun, Result.andThen]
    exact h v w (by simpa using hown) (grown_same _ _) (Or.inl rfl)
  · have hpos : 0 < news.length := by rw [hm]; exact Nat.mul_pos (by omega) hsz
    rcases hL with hL | ⟨b, of, rfl, hc⟩
    · omega
    · refine wp_append_lies w s x t ho base e i z size bytes ht hi hz hsize hby hzs hsz v n xs hs hown ⟨b, of, none⟩ m pc news hx hm ?_ h1 (by omega) (by unfold maxLen; omega) (by
        have : (n + m) * bytes ≤ 1000000 * 64 := Nat.mul_le_mul h63 hb64
        omega) hbase w.heap.size rfl fun g cap w' h2 h3 h4 h5 => h _ w' h2 h3 (Or.inr ⟨g, rfl, h4, h5⟩)
      intro j u hu
      rw [Go.WideShapes.add_plain]
      exact hc j u hu

/-- The cells of values. -/
theorem cells_of {w : World} {T S : Nat → Prop} {r : F} {ra : Option Addr} (h : VTop w T S r ra) : ∃ news : List Value, news.length = len r * 2 ∧ LS w news ra ∧ (∀ u ∈ news, u.oneCell' = true) ∧
    ∀ j, j < len r → news[j * 2]? = some (.int .i64 (num r j)) ∧ ∃ a' c', news[j * 2 + 1]? = some (.slice a' (len (kid r j)) c') ∧ VS w S (kid r j) a' := by
  rcases h with h | ⟨b, o, rfl, _, _, hk⟩
  · exact ⟨[], by rw [h]; rfl, Or.inl rfl, fun u hu => (by cases hu), fun j hj => by omega⟩
  · have key : ∀ n, n ≤ len r → ∃ news : List Value, news.length = n * 2 ∧ (∀ j u, news[j]? = some u → w.cell? ⟨b, o + j, none⟩ = some u) ∧ (∀ u ∈ news, u.oneCell' = true) ∧ ∀ j, j < n → news[j * 2]? = some (.int .i64 (num r j)) ∧ ∃ a' c', news[j * 2 + 1]? = some (.slice a' (len (kid r j)) c') ∧ VS w S (kid r j) a' := by
      intro n
      induction n with
      | zero => intro _; exact ⟨[], rfl, fun j u hu => by simp at hu, fun u hu => (by cases hu), fun j hj => by omega⟩
      | succ n ih =>
        intro hn
        obtain ⟨news, h1, h2, h3, h4⟩ := ih (by omega)
        obtain ⟨e1, a', c', e2, hV⟩ := hk n (by omega)
        refine ⟨news ++ [.int .i64 (num r n), .slice a' (len (kid r n)) c'], by simp [h1]; omega, fun j u hu => ?_, fun u hu => ?_, fun j hj => ?_⟩
        · by_cases ej : j < n * 2
          · rw [List.getElem?_append_left (by omega)] at hu; exact h2 j u hu
          · rw [List.getElem?_append_right (by omega), h1] at hu
            have : j = n * 2 ∨ j = n * 2 + 1 := by
              have hlt := (List.getElem?_eq_some_iff.1 hu).1
              simp at hlt; omega
            rcases this with rfl | rfl
            · rw [Nat.sub_self] at hu; simp at hu; subst hu; exact e1
            · rw [show n * 2 + 1 - n * 2 = 1 by omega] at hu; simp at hu; subst hu; rw [← Nat.add_assoc]; exact e2
        · rcases List.mem_append.1 hu with hu | hu
          · exact h3 u hu
          · simp only [List.mem_cons, List.not_mem_nil, or_false] at hu
            rcases hu with rfl | rfl <;> rfl
        · by_cases ej : j < n
          · obtain ⟨f1, b', d', f2, g⟩ := h4 j ej
            exact ⟨by rw [List.getElem?_append_left (by omega)]; exact f1, b', d', by rw [List.getElem?_append_left (by omega)]; exact f2, g⟩
          · have en : j = n := by omega
            subst en
            exact ⟨by rw [List.getElem?_append_right (by omega), h1, Nat.sub_self]; rfl, a', c', by rw [List.getElem?_append_right (by omega), h1, show j * 2 + 1 - j * 2 = 1 by omega]; rfl, hV⟩
    obtain ⟨news, h1, h2, h3, h4⟩ := key (len r) (Nat.le_refl _)
    exact ⟨news, h1, Or.inr ⟨b, o, rfl, h2⟩, h3, h4⟩

/-- Names put behind names. -/
theorem wp_names {o : Oper} {a : Act} {w : World} {K : Act → World → Prop} {Q : Exit → Act → World → Prop} (s x : Operand)
    (ho : o.op = .call { callee := .builtin .append, args := #[s, x], argTypes := #[40, 40] }) (base : Nat) (hbase : base ≤ w.heap.size)
    (v : Value) (p : List ByteArray) (hs : a.eval s = v) (hown : w.ownsRow base 9 1 v p.length (p.map Value.string)) (q : List ByteArray) (qa : Option Addr) (qc : Nat) (hx : a.eval x = .slice qa q.length qc) (hX : XA w 0 q qa) (h63 : p.length + q.length ≤ 1000000)
    (h : ∀ v' w', w'.ownsRow base 9 1 v' (p ++ q).length ((p ++ q).map Value.string) → w.grownBy w' v.ownBlock → Moved w w' v v' → K (a.put o.dst v') w') : Oper.wp Tryz.prog o a w K Q := by
  obtain ⟨i0, hi, hz0, hz1, hz2⟩ := info_parts infoText
  exact wp_rows s x 40 ho 9 i0 (.string ⟨#[]⟩) 1 16 Tryz.underlying40 hi hz0 hz1 hz2 rfl (by omega) (by omega) base hbase v p.length _ hs hown qa qc q.length (q.map Value.string) hx (by simp) (LS_texts hX) one_texts h63 fun v' w' h1 h2 h3 => h v' w' (by rw [List.length_append, List.map_append]; exact h1) h2 h3

/-- Values put behind values. -/
theorem wp_vals {o : Oper} {a : Act} {w : World} {K : Act → World → Prop} {Q : Exit → Act → World → Prop} (s x : Operand)
    (ho : o.op = .call { callee := .builtin .append, args := #[s, x], argTypes := #[26, 26] }) (base : Nat) (hbase : base ≤ w.heap.size)
    (v : Value) (l : F) (S : Nat → Prop) (hs : a.eval s = v) (hR : RV w base S v l) (hS : ∀ b, S b → v.ownBlock ≠ some b) (r : F) (ra : Option Addr) (rc : Nat) (T : Nat → Prop) (hx : a.eval x = .slice ra (len r) rc) (hV : VTop w T S r ra) (h63 : len l + len r ≤ 1000000)
    (h : ∀ v' w', RV w' base (fun b => S b ∧ v'.ownBlock ≠ some b) v' (catF l r (len r)) → w.grownBy w' v.ownBlock → Moved w w' v v' → K (a.put o.dst v') w') : Oper.wp Tryz.prog o a w K Q := by
  obtain ⟨i0, hi, hz0, hz1, hz2⟩ := info_parts Tryz.info55
  obtain ⟨cs, h1, h2⟩ := hR
  obtain ⟨news, n1, n2, n3, n4⟩ := cells_of hV
  have hlen : cs.length = len l * 2 := h1.1
  refine wp_rows s x 26 ho 55 i0 _ 2 32 Tryz.underlying26 hi hz0 hz1 hz2 rfl (by omega) (by omega) base hbase v (len l) cs hs h1 ra rc (len r) news hx n1 n2 n3 h63 fun v' w' g1 g2 g3 => h v' w' ⟨_, by rw [catF_len]; exact g1, fun j hj => ?_⟩ g2 g3
  rw [catF_len] at hj
  obtain ⟨e1, e2⟩ := catF_at l r (len r) j hj
  rw [e1, e2]
  have mv : ∀ (k : F) (a' : Option Addr), VS w S k a' → VS w' (fun b => S b ∧ v'.ownBlock ≠ some b) k a' := fun k a' hk => by
    have q1 := VS_mono (S' := fun b => S b ∧ b < w.heap.size) hk fun b hb hs => ⟨hs, hb⟩
    refine VS_mono (VS_ks q1 fun b hs hl => g2.block b hl fun e => hS b hs.1 e.symm) fun b _ hs => ⟨hs.1, fun e => ?_⟩
    rcases g3 with g | ⟨g, hg, hor, _⟩
    · rw [g] at e; exact hS b hs.1 e
    · rw [hg] at e; cases e
      rcases hor with h | h
      · exact hS _ hs.1 h
      · have := hs.2; omega
  by_cases ej : j < len l
  · rw [if_pos ej, if_pos ej]
    obtain ⟨f1, a', c', f2, hk⟩ := h2 j ej
    exact ⟨by rw [List.getElem?_append_left (by omega)]; exact f1, a', c', by rw [List.getElem?_append_left (by omega)]; exact f2, mv _ _ hk⟩
  · rw [if_neg ej, if_neg ej]
    obtain ⟨f1, a', c', f2, hk⟩ := n4 (j - len l) (by omega)
    exact ⟨by rw [List.getElem?_append_right (by omega), show j * 2 - cs.length = (j - len l) * 2 by omega]; exact f1, a', c', by rw [List.getElem?_append_right (by omega), show j * 2 + 1 - cs.length = (j - len l) * 2 + 1 by omega]; exact f2, mv _ _ hk⟩

end Go.Proofs.YtldbmlojgakieaaGreatDoor

namespace Go.Proofs.YtldbmlojgakieaaGreatDoor

open Go.RowKit Go.Deep
end Go.Proofs.YtldbmlojgakieaaGreatDoor

namespace Go.Proofs.YtldbmlojgakieaaGreatDoor

open Go.RowKit Go.Deep

attribute [local go_sem ↓] Go.wp_at_zero Go.wp_at_succ

/-- A block holds numbers, and nothing else. -/
def IB (w : World) (b : Nat) (xs : List Int) : Prop := ∃ cur : Array Value, w.heap[b]? = some (.cells cur 3 (0, 0)) ∧ cur.size = xs.length ∧ ∀ i, i < xs.length → cur[i]? = some (.int .i64 (xs.getD i 0))
theorem IB.pa {w : World} {b lo : Nat} {xs : List Int} (h : IB w b xs) (hl : lo ≤ b) : PA w lo xs (some ⟨b, 0, none⟩) := by
  obtain ⟨cur, h1, h2, h3⟩ := h
  refine Or.inr ⟨b, 0, rfl, hl, fun i hi => ?_⟩
  simp [World.cell?, h1, h3 i hi]
theorem IB.ex {w w' : World} {b : Nat} {xs : List Int} (h : IB w b xs) (hx : Ex w w') : IB w' b xs := by
  obtain ⟨cur, h1, h2⟩ := h
  exact ⟨cur, hx.blk h1, h2⟩
theorem IB.lt {w : World} {b : Nat} {xs : List Int} (h : IB w b xs) : b < w.heap.size := by
  obtain ⟨cur, h1, _⟩ := h
  exact lt_of_block h1

set_option maxRecDepth 100000 in
set_option maxHeartbeats 2000000 in
theorem toIntS_any (xs : List Int) (a : Option Addr) (c lo : Nat) (w : World) (hl : xs.length ≤ 1000000000) (hP : PA w lo xs a) :
    Calls Tryz.prog 115 #[.slice a xs.length c] w fun e w' => e = .returned (.slice (some ⟨w.heap.size, 0, none⟩) xs.length xs.length) ∧ IB w' w.heap.size xs ∧ Ex w w' := by
  have P : Hid (PA w lo xs a) := hP
  clear hP
  obtain ⟨i0, hi, hz0, hz1, hz2⟩ := info_parts Tryz.info3
  have hmk : ∀ w : World, (Instr.makeSlice 119 (.int .i64 (xs.length : Int)) (.int .i64 (xs.length : Int))).run Tryz.prog w = .ok (.slice (some ⟨w.heap.size, 0, none⟩) xs.length xs.length) (w.alloc (.cells (madeCells #[.int .i64 0] xs.length) 3)) := fun w => by
    have := run_make (P := Tryz.prog) w 119 3 i0 _ Tryz.underlying119 hi hz0 .i64 .i64 (xs.length : Int) (xs.length : Int) (by omega) (by omega) (by rw [hz2]; omega) (by omega)
    rw [hz1] at this
    simpa [Value.cells] using this
  clear hz0 hz1 hz2 hi
  go_enter Tryz.func115, Tryz.ntmps115
  go_wp2_with fail
  go_loopw [4] (fun i wr => ∃ (k : Nat) (cur : Array Value), k ≤ xs.length ∧ i = .int .i64 k ∧ Ex w wr ∧ wr.heap[w.heap.size]? = some (.cells cur 3 (0, 0)) ∧ cur.size = xs.length ∧ (∀ j, j < k → cur[j]? = some (.int .i64 (xs.getD j 0)))) (fun i _ => xs.length - (intOf i).toNat)
  case atStart => exact ⟨0, madeCells #[.int .i64 0] xs.length, Nat.zero_le _, rfl, Ex.new _ _, heap_alloc_new _ _, size_madeCells _ _, fun j hj => by omega⟩
  case round =>
    obtain ⟨k, cur, hk, rfl, hx, hob, hcs, hkids⟩ := hrel
    have KI : Hid _ := hkids
    have HCS : Hid (cur.size = xs.length) := hcs
    clear hkids hcs
    by_cases hlt : k < xs.length
    · obtain ⟨b, o, rfl, hlo, hbs, hkk⟩ := PA_at (PA_below P.out hx) (by omega)
      have hc1 := hkk k hlt
      clear hkk
      have cc : wr.cell? ⟨w.heap.size, k, none⟩ = some (cur[k]'(by have := HCS.out; omega)) := by simp [World.cell?, hob]
      have cf : wr.frozen? ⟨w.heap.size, k, none⟩ = false := by simp [World.frozen?, hob]
      go_wp2_with fail
      go_roundw
      case rel =>
        refine ⟨k + 1, cur.setIfInBounds k (.int .i64 (xs.getD k 0)), by omega, by go_num, hx.set (Nat.le_refl _) _, ?_, by simp [HCS.out], fun j hj => ?_⟩
        · simp [World.setCell, Array.getElem?_modify, hob, hlt]
        · by_cases hj' : j < k
          · rw [Array.getElem?_setIfInBounds_ne (by omega)]; exact KI.out j hj'
          · have e : j = k := by omega
            subst e
            rw [Array.getElem?_setIfInBounds_self]; simp [HCS.out, hlt]
      case measure => simp [intOf]; omega
    · go_wp2_with fail
      go_ret
      exact ⟨rfl, ⟨cur, hob, HCS.out, fun i hi => KI.out i (by omega)⟩, hx⟩

set_option maxRecDepth 100000 in
set_option maxHeartbeats 2000000 in
theorem eqIntS_same (xs : List Int) (a a' : Option Addr) (c c' : Nat) (w : World) (hl : xs.length ≤ 1000000000) (hP : PA w 0 xs a) (hP' : PA w 0 xs a') :
    Calls Tryz.prog 124 #[.slice a xs.length c, .slice a' xs.length c'] w fun e w' => e = .returned (.bool true) ∧ Ex w w' := by
  have P : Hid (PA w 0 xs a) := hP
  have P' : Hid (PA w 0 xs a') := hP'
  clear hP hP'
  go_enter Tryz.func124, Tryz.ntmps124
  go_wp2_with fail
  go_loopw [5] (fun i wr => ∃ (k : Nat), k ≤ xs.length ∧ i = .int .i64 k ∧ Ex w wr) (fun i _ => xs.length - (intOf i).toNat)
  case atStart => exact ⟨0, Nat.zero_le _, rfl, Ex.refl _⟩
  case round =>
    obtain ⟨k, hk, rfl, hx⟩ := hrel
    by_cases hlt : k < xs.length
    · obtain ⟨b, o, rfl, hlo, hbs, hkk⟩ := PA_at (PA_below P.out hx) (by omega)
      obtain ⟨b', o', rfl, hlo', hbs', hkk'⟩ := PA_at (PA_below P'.out hx) (by omega)
      have hc1 := hkk k hlt
      have hc2 := hkk' k hlt
      clear hkk hkk'
      have i1 : (0 : Int) ≤ (k : Int) := by omega
      have i2 : (k : Int) < (xs.length : Int) := by omega
      go_wp2_with fail
      go_quiet (fail)
      go_wp2_with fail
      go_roundw
      case rel => exact ⟨k + 1, by omega, by go_num, (hx.drewN _)⟩
      case measure => simp [intOf]; omega
    · go_wp2_with fail
      go_ret
      exact ⟨rfl, hx⟩

set_option maxRecDepth 100000 in
set_option maxHeartbeats 2000000 in
theorem markIntS_any (n c b : Nat) (k0 : Nat) (cur0 : Array Value) (w : World) (hn : n ≤ 1000000000) (hk0 : k0 ≤ 1000000000) (hb : w.heap[b]? = some (.cells cur0 3 (0, 0))) (hc : cur0.size = n) :
    Calls Tryz.prog 63 #[.slice (some ⟨b, 0, none⟩) n c, .int .i64 k0] w fun e w' => e = .returned (.int .i64 ((k0 + n : Nat) : Int)) ∧ Fr b w w' := by
  have B : Hid _ := hb
  clear hb
  go_enter Tryz.func63, Tryz.ntmps63
  go_wp2_with fail
  go_loopw [1, 5] (fun kv i wr => ∃ (k : Nat) (cur : Array Value), k ≤ n ∧ i = .int .i64 k ∧ kv = .int .i64 ((k0 + k : Nat) : Int) ∧ Fr b w wr ∧ wr.heap[b]? = some (.cells cur 3 (0, 0)) ∧ cur.size = n) (fun _ i _ => n - (intOf i).toNat)
  case atStart => exact ⟨0, cur0, Nat.zero_le _, rfl, rfl, Fr.refl _ _, B.out, hc⟩
  case round =>
    obtain ⟨k, cur, hk, rfl, rfl, hx, hob, hcs⟩ := hrel
    have HCS : Hid (cur.size = n) := hcs
    clear hcs
    by_cases hlt : k < n
    · have cc : wr.cell? ⟨b, k, none⟩ = some (cur[k]'(by have := HCS.out; omega)) := by simp [World.cell?, hob]
      have cf : wr.frozen? ⟨b, k, none⟩ = false := by simp [World.frozen?, hob]
      go_wp2_with fail
      go_roundw
      case rel =>
        refine ⟨k + 1, cur.setIfInBounds k (.int .i64 ((k0 : Int) + (k : Int))), by omega, by go_num, by go_num, hx.set (Or.inl rfl) _, ?_, by simp [HCS.out]⟩
        simp [World.setCell, Array.getElem?_modify, hob]
      case measure => simp [intOf]; omega
    · have e : k = n := by omega
      have E : Hid (k = n) := e
      clear e
      go_wp2_with fail
      go_ret
      exact ⟨by rw [E.out]; rfl, hx⟩

end Go.Proofs.YtldbmlojgakieaaGreatDoor

namespace Go.Proofs.YtldbmlojgakieaaGreatDoor

open Go.RowKit Go.Deep

attribute [local go_sem ↓] Go.wp_at_zero Go.wp_at_succ

/-- Values set in a row of cells. -/
def setL (w : World) (b : Nat) : Nat → List Value → World
  | _, [] => w
  | o, v :: r => setL (w.setCell ⟨b, o, none⟩ v) b (o + 1) r
def setA (cur : Array Value) : Nat → List Value → Array Value
  | _, [] => cur
  | o, v :: r => setA (cur.setIfInBounds o v) (o + 1) r
theorem setA_size : ∀ (vs : List Value) (cur : Array Value) (o : Nat), (setA cur o vs).size = cur.size
  | [], _, _ => rfl
  | v :: r, cur, o => by rw [setA, setA_size r]; simp
theorem setA_out : ∀ (vs : List Value) (cur : Array Value) (o i : Nat), i < o ∨ o + vs.length ≤ i → (setA cur o vs)[i]? = cur[i]?
  | [], _, _, _, _ => rfl
  | v :: r, cur, o, i, h => by
    simp only [List.length_cons] at h
    rw [setA, setA_out r _ _ _ (by omega), Array.getElem?_setIfInBounds_ne (by omega)]
theorem setA_in : ∀ (vs : List Value) (cur : Array Value) (o i : Nat) (v : Value), vs[i]? = some v → o + i < cur.size → (setA cur o vs)[o + i]? = some v
  | [], _, _, _, _, h, _ => by simp at h
  | u :: r, cur, o, 0, v, h, hs => by
    simp only [List.getElem?_cons_zero, Option.some.injEq] at h
    subst h
    rw [setA, setA_out r _ _ _ (by omega), Nat.add_zero, Array.getElem?_setIfInBounds_self, if_pos (by omega)]
  | u :: r, cur, o, i + 1, v, h, hs => by
    rw [setA, show o + (i + 1) = o + 1 + i by omega]
    exact setA_in r _ _ _ _ (by simpa using h) (by simp; omega)
theorem setA_all (vs : List Value) (cur : Array Value) (h : cur.size = vs.length) : setA cur 0 vs = vs.toArray := by
  refine Array.ext' (List.ext_getElem? fun i => ?_)
  rw [Array.getElem?_toList]
  rcases Nat.lt_or_ge i vs.length with hi | hi
  · have := setA_in vs cur 0 i vs[i] (by simp [hi]) (by omega)
    rw [Nat.zero_add] at this
    rw [this]; simp [hi]
  · rw [setA_out vs cur 0 i (Or.inr (by omega))]
    simp [hi, h]
theorem setL_size : ∀ (vs : List Value) (w : World) (b o : Nat), (setL w b o vs).heap.size = w.heap.size
  | [], _, _, _ => rfl
  | v :: r, w, b, o => by rw [setL, setL_size r, World.size_setCell]
theorem setL_blk : ∀ (vs : List Value) {w : World} {b o : Nat} {cur : Array Value} {t : TypeId}, w.heap[b]? = some (.cells cur t (0, 0)) → (setL w b o vs).heap[b]? = some (.cells (setA cur o vs) t (0, 0))
  | [], _, _, _, _, _, h => h
  | v :: r, w, b, o, cur, t, h => by
    rw [setL, setA]
    exact setL_blk r (by simp [World.setCell, Array.getElem?_modify, h])
theorem setL_other : ∀ (vs : List Value) {w : World} {b o n : Nat}, n ≠ b → (setL w b o vs).heap[n]? = w.heap[n]?
  | [], _, _, _, _, _ => rfl
  | v :: r, w, b, o, n, h => by rw [setL, setL_other r h, Below.heap_setCell _ _ _ _ (by simpa using h)]
theorem setL_ex : ∀ (vs : List Value) {a w : World} {b o : Nat}, Ex a w → a.heap.size ≤ b → Ex a (setL w b o vs)
  | [], _, _, _, _, h, _ => h
  | v :: r, a, w, b, o, h, hb => by rw [setL]; exact setL_ex r (h.set hb v) hb
theorem setL_kp : ∀ (vs : List Value) {lo : Nat} {a w : World} {b o : Nat}, Kp lo a w → (b < lo ∨ a.heap.size ≤ b) → Kp lo a (setL w b o vs)
  | [], _, _, _, _, _, h, _ => h
  | v :: r, lo, a, w, b, o, h, hb => by rw [setL]; exact setL_kp r (h.set hb v) hb
theorem blk_set {w : World} {n i : Nat} {vs : Array Value} {t : TypeId} (h : w.heap[n]? = some (.cells vs t (0, 0))) (v : Value) : (w.setCell ⟨n, i, none⟩ v).heap[n]? = some (.cells (vs.setIfInBounds i v) t (0, 0)) := by
  simp [World.setCell, Array.getElem?_modify, h]
theorem blk_off {w : World} {n m i : Nat} {o : Obj} (h : w.heap[n]? = some o) (hn : n ≠ m) (v : Value) : (w.setCell ⟨m, i, none⟩ v).heap[n]? = some o := by
  rw [Below.heap_setCell _ _ _ _ (by simpa using hn)]; exact h
theorem blk_cell {w : World} {n : Nat} {vs : Array Value} {t : TypeId} (h : w.heap[n]? = some (.cells vs t (0, 0))) (i : Nat) : w.cell? ⟨n, i, none⟩ = vs[i]? := by
  simp [World.cell?, h]
theorem blk_free {w : World} {n : Nat} {vs : Array Value} {t : TypeId} (h : w.heap[n]? = some (.cells vs t (0, 0))) (i : Nat) : w.frozen? ⟨n, i, none⟩ = false := by
  simp [World.frozen?, h]

end Go.Proofs.YtldbmlojgakieaaGreatDoor
