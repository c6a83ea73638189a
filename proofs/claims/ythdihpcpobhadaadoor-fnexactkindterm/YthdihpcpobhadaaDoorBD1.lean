/- Bindings, bodies and functions without places as they lie in memory. -/
import Derived.Test.YthdihpcpobhadaaDoorTM2

namespace Go.Proofs.YthdihpcpobhadaaDoor

open Go.RowKit Go.Deep

/-- A list of bindings: each a kind, names, a function's name, terms, and two bodies (bindings, and terms that are said). -/
abbrev BD := BT (Int × List ByteArray × ByteArray × TM × TM × TM)

def blen : BD → Nat
  | .nil => 0
  | .node _ _ _ _ .nil => 0
  | .node _ _ (_, _, _, _, _, _) _ (.node _ _ _ _ r) => blen r + 1
def bkind : BD → Nat → Int
  | .nil, _ => 0
  | .node _ _ _ _ .nil, _ => 0
  | .node _ _ (k, _, _, _, _, _) _ (.node _ _ _ _ _), 0 => k
  | .node _ _ (_, _, _, _, _, _) _ (.node _ _ _ _ r), i + 1 => bkind r i
def bnames : BD → Nat → List ByteArray
  | .nil, _ => []
  | .node _ _ _ _ .nil, _ => []
  | .node _ _ (_, ns, _, _, _, _) _ (.node _ _ _ _ _), 0 => ns
  | .node _ _ (_, _, _, _, _, _) _ (.node _ _ _ _ r), i + 1 => bnames r i
def bfn : BD → Nat → ByteArray
  | .nil, _ => ⟨#[]⟩
  | .node _ _ _ _ .nil, _ => ⟨#[]⟩
  | .node _ _ (_, _, fn, _, _, _) _ (.node _ _ _ _ _), 0 => fn
  | .node _ _ (_, _, _, _, _, _) _ (.node _ _ _ _ r), i + 1 => bfn r i
def bterms : BD → Nat → TM
  | .nil, _ => .nil
  | .node _ _ _ _ .nil, _ => .nil
  | .node _ _ (_, _, _, ts, _, _) _ (.node _ _ _ _ _), 0 => ts
  | .node _ _ (_, _, _, _, _, _) _ (.node _ _ _ _ r), i + 1 => bterms r i
def bthen : BD → Nat → BD
  | .nil, _ => .nil
  | .node _ _ _ _ .nil, _ => .nil
  | .node _ _ (_, _, _, _, _, _) tb (.node _ _ _ _ _), 0 => tb
  | .node _ _ (_, _, _, _, _, _) _ (.node _ _ _ _ r), i + 1 => bthen r i
def btsay : BD → Nat → TM
  | .nil, _ => .nil
  | .node _ _ _ _ .nil, _ => .nil
  | .node _ _ (_, _, _, _, tz, _) _ (.node _ _ _ _ _), 0 => tz
  | .node _ _ (_, _, _, _, _, _) _ (.node _ _ _ _ r), i + 1 => btsay r i
def belse : BD → Nat → BD
  | .nil, _ => .nil
  | .node _ _ _ _ .nil, _ => .nil
  | .node _ _ (_, _, _, _, _, _) _ (.node _ _ _ eb _), 0 => eb
  | .node _ _ (_, _, _, _, _, _) _ (.node _ _ _ _ r), i + 1 => belse r i
def besay : BD → Nat → TM
  | .nil, _ => .nil
  | .node _ _ _ _ .nil, _ => .nil
  | .node _ _ (_, _, _, _, _, ez) _ (.node _ _ _ _ _), 0 => ez
  | .node _ _ (_, _, _, _, _, _) _ (.node _ _ _ _ r), i + 1 => besay r i
def bdep : BD → Nat
  | .nil => 0
  | .node _ _ _ _ .nil => 0
  | .node _ _ (_, _, _, _, _, _) tb (.node _ _ _ eb r) => max (max (bdep tb + 1) (bdep eb + 1)) (bdep r)

theorem bdep_kid : ∀ (f : BD) (i : Nat), i < blen f → bdep (bthen f i) < bdep f ∧ bdep (belse f i) < bdep f
  | .nil, _, h => by simp [blen] at h
  | .node _ _ _ _ .nil, _, h => by simp [blen] at h
  | .node _ _ (_, _, _, _, _, _) tb (.node _ _ _ eb r), 0, _ => by simp only [bthen, belse, bdep]; omega
  | .node _ _ (_, _, _, _, _, _) tb (.node _ _ _ eb r), i + 1, h => by
    have := bdep_kid r i (by simp only [blen] at h; omega)
    simp only [bthen, belse, bdep]; omega

/-- A list of bindings lies at block b from place o on: eight cells each, all behind them in blocks of S. -/
def BC (w : World) (S : Nat → Prop) : BD → Nat → Nat → Prop
  | .nil, _, _ => True
  | .node _ _ _ _ .nil, _, _ => True
  | .node _ _ (k, ns, fn, ts, tz, ez) tb (.node _ _ _ eb r), b, o => (w.cell? ⟨b, o, none⟩ = some (.int .i64 k) ∧ (∃ a c, w.cell? ⟨b, o + 1, none⟩ = some (.slice a ns.length c) ∧ ns.length ≤ c ∧ XS w S ns a) ∧ w.cell? ⟨b, o + 2, none⟩ = some (.string fn) ∧ (∃ a c, w.cell? ⟨b, o + 3, none⟩ = some (.slice a (tlen ts) c) ∧ MS w S ts a) ∧
      (∃ a c, w.cell? ⟨b, o + 4, none⟩ = some (.slice a (blen tb) c) ∧ (blen tb = 0 ∨ ∃ b' o', a = some ⟨b', o', none⟩ ∧ S b' ∧ BC w S tb b' o')) ∧ (∃ a c, w.cell? ⟨b, o + 5, none⟩ = some (.slice a (tlen tz) c) ∧ MS w S tz a) ∧
      (∃ a c, w.cell? ⟨b, o + 6, none⟩ = some (.slice a (blen eb) c) ∧ (blen eb = 0 ∨ ∃ b' o', a = some ⟨b', o', none⟩ ∧ S b' ∧ BC w S eb b' o')) ∧ (∃ a c, w.cell? ⟨b, o + 7, none⟩ = some (.slice a (tlen ez) c) ∧ MS w S ez a)) ∧ BC w S r b (o + 8)

/-- A list of bindings lies behind a slice's address. -/
def BS (w : World) (S : Nat → Prop) (f : BD) (a : Option Addr) : Prop := blen f = 0 ∨ ∃ b o, a = some ⟨b, o, none⟩ ∧ S b ∧ BC w S f b o

/-- The eight cells of a binding. -/
def BT8 (w : World) (S : Nat → Prop) (f : BD) (i b o : Nat) : Prop :=
  w.cell? ⟨b, o, none⟩ = some (.int .i64 (bkind f i)) ∧ (∃ a c, w.cell? ⟨b, o + 1, none⟩ = some (.slice a (bnames f i).length c) ∧ (bnames f i).length ≤ c ∧ XS w S (bnames f i) a) ∧ w.cell? ⟨b, o + 2, none⟩ = some (.string (bfn f i)) ∧ (∃ a c, w.cell? ⟨b, o + 3, none⟩ = some (.slice a (tlen (bterms f i)) c) ∧ MS w S (bterms f i) a) ∧
    (∃ a c, w.cell? ⟨b, o + 4, none⟩ = some (.slice a (blen (bthen f i)) c) ∧ BS w S (bthen f i) a) ∧ (∃ a c, w.cell? ⟨b, o + 5, none⟩ = some (.slice a (tlen (btsay f i)) c) ∧ MS w S (btsay f i) a) ∧
    (∃ a c, w.cell? ⟨b, o + 6, none⟩ = some (.slice a (blen (belse f i)) c) ∧ BS w S (belse f i) a) ∧ (∃ a c, w.cell? ⟨b, o + 7, none⟩ = some (.slice a (tlen (besay f i)) c) ∧ MS w S (besay f i) a)

theorem BC_cell {w : World} {S : Nat → Prop} : ∀ {f : BD} {b o : Nat}, BC w S f b o → ∀ i, i < blen f → BT8 w S f i b (o + i * 8)
  | .nil, _, _, _, i, h => by simp [blen] at h
  | .node _ _ _ _ .nil, _, _, _, i, h => by simp [blen] at h
  | .node _ _ (_, _, _, _, _, _) _ (.node _ _ _ _ r), b, o, hc, 0, _ => hc.1
  | .node _ _ (_, _, _, _, _, _) _ (.node _ _ _ _ r), b, o, hc, i + 1, h => by
    have := BC_cell hc.2 i (by simp only [blen] at h; omega)
    rw [show o + 8 + i * 8 = o + (i + 1) * 8 by omega] at this
    exact this

theorem BC_mk {w : World} {S : Nat → Prop} : ∀ {f : BD} {b o : Nat}, (∀ i, i < blen f → BT8 w S f i b (o + i * 8)) → BC w S f b o
  | .nil, _, _, _ => trivial
  | .node _ _ _ _ .nil, _, _, _ => trivial
  | .node _ _ (_, _, _, _, _, _) _ (.node _ _ _ _ r), b, o, h => by
    refine ⟨h 0 (by simp [blen]), BC_mk fun i hi => ?_⟩
    have := h (i + 1) (by simp only [blen]; omega)
    rw [show o + (i + 1) * 8 = o + 8 + i * 8 by omega] at this
    exact this

theorem BC_ks {w w' : World} {S : Nat → Prop} (hk : Ks S w w') : ∀ {f : BD} {b o : Nat}, S b → BC w S f b o → BC w' S f b o
  | .nil, _, _, _, _ => trivial
  | .node _ _ _ _ .nil, _, _, _, _ => trivial
  | .node _ _ (_, _, _, _, _, _) _ (.node _ _ _ _ r), b, o, hb, ⟨⟨h0, ⟨a1, c1, h1, x1⟩, h2, ⟨a3, c3, h3, x3⟩, ⟨a4, c4, h4, x4⟩, ⟨a5, c5, h5, x5⟩, ⟨a6, c6, h6, x6⟩, ⟨a7, c7, h7, x7⟩⟩, hr⟩ => by
    have K : ∀ {i : Nat} {v : Value}, w.cell? ⟨b, i, none⟩ = some v → w'.cell? ⟨b, i, none⟩ = some v := fun h => by rw [hk.cell hb (World.block_lt_of_cell? _ _ h)]; exact h
    refine ⟨⟨K h0, ⟨a1, c1, K h1, x1.1, XS_ks x1.2 hk⟩, K h2, ⟨a3, c3, K h3, MS_ks x3 hk⟩, ⟨a4, c4, K h4, ?_⟩, ⟨a5, c5, K h5, MS_ks x5 hk⟩, ⟨a6, c6, K h6, ?_⟩, ⟨a7, c7, K h7, MS_ks x7 hk⟩⟩, BC_ks hk hb hr⟩
    · rcases x4 with h | ⟨b', o', e, hb', ht⟩
      · exact Or.inl h
      · exact Or.inr ⟨b', o', e, hb', BC_ks hk hb' ht⟩
    · rcases x6 with h | ⟨b', o', e, hb', ht⟩
      · exact Or.inl h
      · exact Or.inr ⟨b', o', e, hb', BC_ks hk hb' ht⟩

theorem BS_ks {w w' : World} {S : Nat → Prop} {f : BD} {a : Option Addr} (h : BS w S f a) (hk : Ks S w w') : BS w' S f a := by
  rcases h with h | ⟨b, o, e, hb, ht⟩
  · exact Or.inl h
  · exact Or.inr ⟨b, o, e, hb, BC_ks hk hb ht⟩

theorem BC_mono {w : World} {S S' : Nat → Prop} (hl : ∀ b, b < w.heap.size → S b → S' b) : ∀ {f : BD} {b o : Nat}, BC w S f b o → BC w S' f b o
  | .nil, _, _, _ => trivial
  | .node _ _ _ _ .nil, _, _, _ => trivial
  | .node _ _ (_, _, _, _, _, _) tb (.node _ _ _ eb r), b, o, ⟨⟨h0, ⟨a1, c1, h1, x1⟩, h2, ⟨a3, c3, h3, x3⟩, ⟨a4, c4, h4, x4⟩, ⟨a5, c5, h5, x5⟩, ⟨a6, c6, h6, x6⟩, ⟨a7, c7, h7, x7⟩⟩, hr⟩ => by
    refine ⟨⟨h0, ⟨a1, c1, h1, x1.1, XS_mono x1.2 hl⟩, h2, ⟨a3, c3, h3, MS_mono x3 hl⟩, ⟨a4, c4, h4, ?_⟩, ⟨a5, c5, h5, MS_mono x5 hl⟩, ⟨a6, c6, h6, ?_⟩, ⟨a7, c7, h7, MS_mono x7 hl⟩⟩, BC_mono hl hr⟩
    · rcases x4 with h | ⟨b', o', e, hb', ht⟩
      · exact Or.inl h
      · by_cases h0 : blen tb = 0
        · exact Or.inl h0
        · exact Or.inr ⟨b', o', e, hl b' (World.block_lt_of_cell? _ _ (BC_cell ht 0 (by omega)).1) hb', BC_mono hl ht⟩
    · rcases x6 with h | ⟨b', o', e, hb', ht⟩
      · exact Or.inl h
      · by_cases h0 : blen eb = 0
        · exact Or.inl h0
        · exact Or.inr ⟨b', o', e, hl b' (World.block_lt_of_cell? _ _ (BC_cell ht 0 (by omega)).1) hb', BC_mono hl ht⟩

theorem BS_mono {w : World} {S S' : Nat → Prop} {f : BD} {a : Option Addr} (h : BS w S f a) (hl : ∀ b, b < w.heap.size → S b → S' b) : BS w S' f a := by
  rcases h with h | ⟨b, o, e, hb, ht⟩
  · exact Or.inl h
  · by_cases h0 : blen f = 0
    · exact Or.inl h0
    · exact Or.inr ⟨b, o, e, hl b (World.block_lt_of_cell? _ _ (BC_cell ht 0 (by omega)).1) hb, BC_mono hl ht⟩

theorem BS_mk {w : World} {S : Nat → Prop} {f : BD} {g o : Nat} (hg : S g) (h : ∀ i, i < blen f → BT8 w S f i g (o + i * 8)) : BS w S f (some ⟨g, o, none⟩) :=
  Or.inr ⟨g, o, rfl, hg, BC_mk h⟩

/-- .. all from block lo on. -/
def BA (w : World) (lo : Nat) (f : BD) (a : Option Addr) : Prop := BS w (fun b => lo ≤ b) f a
theorem BA_kp {w w' : World} {lo : Nat} {f : BD} {a : Option Addr} (h : BA w lo f a) (hk : Kp lo w w') : BA w' lo f a := BS_ks h hk.block
theorem BA_lo {w : World} {lo lo' : Nat} {f : BD} {a : Option Addr} (h : BA w lo f a) (hl : lo' ≤ lo) : BA w lo' f a := BS_mono h fun _ _ hb => Nat.le_trans hl hb
theorem BA_below {w w' : World} {lo : Nat} {f : BD} {a : Option Addr} (h : BA w lo f a) (hb : Ex w w') : BA w' lo f a := BA_kp h (Kp.of_below hb lo)
theorem BA_at {w : World} {lo : Nat} {f : BD} {a : Option Addr} (h : BA w lo f a) (h0 : 0 < blen f) : ∃ b o, a = some ⟨b, o, none⟩ ∧ lo ≤ b ∧ b < w.heap.size ∧ ∀ i, i < blen f → BT8 w (fun b => lo ≤ b) f i b (o + i * 8) := by
  rcases h with h | ⟨b, o, e, hb, ht⟩
  · omega
  · exact ⟨b, o, e, hb, World.block_lt_of_cell? _ _ (BC_cell ht 0 h0).1, fun i hi => BC_cell ht i hi⟩

/-- A function without places. -/
structure PM where
  name : ByteArray
  params : List ByteArray
  binds : BD
  says : TM
/-- None. -/
def pm0 : PM := ⟨⟨#[]⟩, [], .nil, .nil⟩

/-- The four cells of a function. -/
def PT (w : World) (S : Nat → Prop) (f : PM) (b o : Nat) : Prop :=
  w.cell? ⟨b, o, none⟩ = some (.string f.name) ∧ (∃ a c, w.cell? ⟨b, o + 1, none⟩ = some (.slice a f.params.length c) ∧ f.params.length ≤ c ∧ XS w S f.params a) ∧ (∃ a c, w.cell? ⟨b, o + 2, none⟩ = some (.slice a (blen f.binds) c) ∧ BS w S f.binds a) ∧ (∃ a c, w.cell? ⟨b, o + 3, none⟩ = some (.slice a (tlen f.says) c) ∧ MS w S f.says a)

/-- Functions lie behind an address. -/
def QS (w : World) (S : Nat → Prop) (l : List PM) (a : Option Addr) : Prop := l.length = 0 ∨ ∃ b o, a = some ⟨b, o, none⟩ ∧ S b ∧ ∀ i, i < l.length → PT w S (l.getD i pm0) b (o + i * 4)
theorem PT_ks {w w' : World} {S : Nat → Prop} (hk : Ks S w w') {f : PM} {b o : Nat} (hb : S b) (h : PT w S f b o) : PT w' S f b o := by
  obtain ⟨h0, ⟨a1, c1, h1, x1⟩, ⟨a2, c2, h2, x2⟩, ⟨a3, c3, h3, x3⟩⟩ := h
  have K : ∀ {i : Nat} {v : Value}, w.cell? ⟨b, i, none⟩ = some v → w'.cell? ⟨b, i, none⟩ = some v := fun h => by rw [hk.cell hb (World.block_lt_of_cell? _ _ h)]; exact h
  exact ⟨K h0, ⟨a1, c1, K h1, x1.1, XS_ks x1.2 hk⟩, ⟨a2, c2, K h2, BS_ks x2 hk⟩, ⟨a3, c3, K h3, MS_ks x3 hk⟩⟩
theorem PT_mono {w : World} {S S' : Nat → Prop} (hl : ∀ b, b < w.heap.size → S b → S' b) {f : PM} {b o : Nat} (h : PT w S f b o) : PT w S' f b o := by
  obtain ⟨h0, ⟨a1, c1, h1, x1⟩, ⟨a2, c2, h2, x2⟩, ⟨a3, c3, h3, x3⟩⟩ := h
  exact ⟨h0, ⟨a1, c1, h1, x1.1, XS_mono x1.2 hl⟩, ⟨a2, c2, h2, BS_mono x2 hl⟩, ⟨a3, c3, h3, MS_mono x3 hl⟩⟩
theorem QS_ks {w w' : World} {S : Nat → Prop} {l : List PM} {a : Option Addr} (h : QS w S l a) (hk : Ks S w w') : QS w' S l a := by
  rcases h with h | ⟨b, o, e, hb, ht⟩
  · exact Or.inl h
  · exact Or.inr ⟨b, o, e, hb, fun i hi => PT_ks hk hb (ht i hi)⟩
theorem QS_mono {w : World} {S S' : Nat → Prop} {l : List PM} {a : Option Addr} (h : QS w S l a) (hl : ∀ b, b < w.heap.size → S b → S' b) : QS w S' l a := by
  rcases h with h | ⟨b, o, e, hb, ht⟩
  · exact Or.inl h
  · by_cases h0 : l.length = 0
    · exact Or.inl h0
    · exact Or.inr ⟨b, o, e, hl b (World.block_lt_of_cell? _ _ (ht 0 (by omega)).1) hb, fun i hi => PT_mono hl (ht i hi)⟩
def QA (w : World) (lo : Nat) (l : List PM) (a : Option Addr) : Prop := QS w (fun b => lo ≤ b) l a
theorem QA_kp {w w' : World} {lo : Nat} {f : List PM} {a : Option Addr} (h : QA w lo f a) (hk : Kp lo w w') : QA w' lo f a := QS_ks h hk.block
theorem QA_lo {w : World} {lo lo' : Nat} {f : List PM} {a : Option Addr} (h : QA w lo f a) (hl : lo' ≤ lo) : QA w lo' f a := QS_mono h fun _ _ hb => Nat.le_trans hl hb
theorem QA_below {w w' : World} {lo : Nat} {f : List PM} {a : Option Addr} (h : QA w lo f a) (hb : Ex w w') : QA w' lo f a := QA_kp h (Kp.of_below hb lo)
theorem QA_at {w : World} {lo : Nat} {l : List PM} {a : Option Addr} (h : QA w lo l a) (h0 : 0 < l.length) : ∃ b o, a = some ⟨b, o, none⟩ ∧ lo ≤ b ∧ b < w.heap.size ∧ ∀ i, i < l.length → PT w (fun b => lo ≤ b) (l.getD i pm0) b (o + i * 4) := by
  rcases h with h | ⟨b, o, e, hb, ht⟩
  · omega
  · exact ⟨b, o, e, hb, World.block_lt_of_cell? _ _ (ht 0 h0).1, ht⟩

end Go.Proofs.YthdihpcpobhadaaDoor
