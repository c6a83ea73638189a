/- Terms as they lie in memory. Walks: how codes are read and types are drawn. Walks: codes opened, types drawn. Walks: types drawn, some spoilt. Walks: two types held against each other. Walks: paths drawn. Walks: a type copied by the specification; its part by a path. Walks: names of functions without places, and lists of texts. -/
import Derived.Test.YtldbmlojgakieaaGreatDoorGT2
import Derived.Deep.QuietTactic
import Derived.BigQuiet
import Derived.Deep.LoopGhost
import Derived.Deep.RegionLaw
import Derived.Laws.Strings
namespace Go.Proofs.YtldbmlojgakieaaGreatDoor

open Go.RowKit Go.Deep

/-- A list of terms: each a kind, a number, a name, a path, and a list of terms. -/
abbrev TM := BT (Int × Int × ByteArray × List Int)

def tlen : TM → Nat
  | .nil => 0
  | .node _ _ (_, _, _, _) _ r => tlen r + 1
def tkid : TM → Nat → TM
  | .nil, _ => .nil
  | .node _ _ (_, _, _, _) k _, 0 => k
  | .node _ _ (_, _, _, _) _ r, i + 1 => tkid r i
def tkind : TM → Nat → Int
  | .nil, _ => 0
  | .node _ _ (k, _, _, _) _ _, 0 => k
  | .node _ _ (_, _, _, _) _ r, i + 1 => tkind r i
def tnum : TM → Nat → Int
  | .nil, _ => 0
  | .node _ _ (_, n, _, _) _ _, 0 => n
  | .node _ _ (_, _, _, _) _ r, i + 1 => tnum r i
def tname : TM → Nat → ByteArray
  | .nil, _ => ⟨#[]⟩
  | .node _ _ (_, _, s, _) _ _, 0 => s
  | .node _ _ (_, _, _, _) _ r, i + 1 => tname r i
def tpath : TM → Nat → List Int
  | .nil, _ => []
  | .node _ _ (_, _, _, p) _ _, 0 => p
  | .node _ _ (_, _, _, _) _ r, i + 1 => tpath r i
def tdep : TM → Nat
  | .nil => 0
  | .node _ _ (_, _, _, _) k r => max (tdep k + 1) (tdep r)

theorem tdep_kid : ∀ (f : TM) (i : Nat), i < tlen f → tdep (tkid f i) < tdep f
  | .nil, _, h => by simp [tlen] at h
  | .node _ _ (_, _, _, _) k r, 0, _ => by simp only [tkid, tdep]; omega
  | .node _ _ (_, _, _, _) k r, i + 1, h => by
    have := tdep_kid r i (by simp only [tlen] at h; omega)
    simp only [tkid, tdep]; omega

/-- Numbers lie behind an address, in a block of S. -/
def PS (w : World) (S : Nat → Prop) (p : List Int) (a : Option Addr) : Prop := p.length = 0 ∨ ∃ b o, a = some ⟨b, o, none⟩ ∧ S b ∧ ∀ i, i < p.length → w.cell? ⟨b, o + i, none⟩ = some (.int .i64 (p.getD i 0))

theorem PS_ks {w w' : World} {S : Nat → Prop} {p : List Int} {a : Option Addr} (h : PS w S p a) (hk : Ks S w w') : PS w' S p a := by
  rcases h with h | ⟨b, o, e, hb, hc⟩
  · exact Or.inl h
  · exact Or.inr ⟨b, o, e, hb, fun i hi => by rw [hk.cell hb (World.block_lt_of_cell? _ _ (hc i hi))]; exact hc i hi⟩
theorem PS_mono {w : World} {S S' : Nat → Prop} {p : List Int} {a : Option Addr} (h : PS w S p a) (hl : ∀ b, b < w.heap.size → S b → S' b) : PS w S' p a := by
  rcases h with h | ⟨b, o, e, hb, hc⟩
  · exact Or.inl h
  · by_cases h0 : p.length = 0
    · exact Or.inl h0
    · exact Or.inr ⟨b, o, e, hl b (World.block_lt_of_cell? _ _ (hc 0 (by omega))) hb, hc⟩
theorem PS_pa {w : World} {lo : Nat} {p : List Int} {a : Option Addr} : PS w (fun b => lo ≤ b) p a ↔ PA w lo p a := Iff.rfl

/-- A list of terms lies at block b from place o on: five cells each, its path and its own list behind the last two, all in blocks of S. -/
def MC (w : World) (S : Nat → Prop) : TM → Nat → Nat → Prop
  | .nil, _, _ => True
  | .node _ _ (k, n, s, p) f r, b, o => (w.cell? ⟨b, o, none⟩ = some (.int .i64 k) ∧ w.cell? ⟨b, o + 1, none⟩ = some (.int .i64 n) ∧ w.cell? ⟨b, o + 2, none⟩ = some (.string s) ∧ (∃ pa pc, w.cell? ⟨b, o + 3, none⟩ = some (.slice pa p.length pc) ∧ PS w S p pa ∧ p.length ≤ pc ∧ pc ≤ 9223372036854775807) ∧
      ∃ a cap, w.cell? ⟨b, o + 4, none⟩ = some (.slice a (tlen f) cap) ∧ (tlen f = 0 ∨ ∃ b' o', a = some ⟨b', o', none⟩ ∧ S b' ∧ MC w S f b' o')) ∧ MC w S r b (o + 5)

/-- A list of terms lies behind a slice's address. -/
def MS (w : World) (S : Nat → Prop) (f : TM) (a : Option Addr) : Prop := tlen f = 0 ∨ ∃ b o, a = some ⟨b, o, none⟩ ∧ S b ∧ MC w S f b o

/-- The five cells of a term. -/
def MT (w : World) (S : Nat → Prop) (f : TM) (i b o : Nat) : Prop :=
  w.cell? ⟨b, o, none⟩ = some (.int .i64 (tkind f i)) ∧ w.cell? ⟨b, o + 1, none⟩ = some (.int .i64 (tnum f i)) ∧ w.cell? ⟨b, o + 2, none⟩ = some (.string (tname f i)) ∧ (∃ pa pc, w.cell? ⟨b, o + 3, none⟩ = some (.slice pa (tpath f i).length pc) ∧ PS w S (tpath f i) pa ∧ (tpath f i).length ≤ pc ∧ pc ≤ 9223372036854775807) ∧
    ∃ a cap, w.cell? ⟨b, o + 4, none⟩ = some (.slice a (tlen (tkid f i)) cap) ∧ MS w S (tkid f i) a

theorem MC_cell {w : World} {S : Nat → Prop} : ∀ {f : TM} {b o : Nat}, MC w S f b o → ∀ i, i < tlen f → MT w S f i b (o + i * 5)
  | .nil, _, _, _, i, h => by simp [tlen] at h
  | .node _ _ (_, _, _, _) k r, b, o, hc, 0, _ => hc.1
  | .node _ _ (_, _, _, _) k r, b, o, hc, i + 1, h => by
    have := MC_cell hc.2 i (by simp only [tlen] at h; omega)
    rw [show o + 5 + i * 5 = o + (i + 1) * 5 by omega] at this
    exact this

theorem MC_mk {w : World} {S : Nat → Prop} : ∀ {f : TM} {b o : Nat}, (∀ i, i < tlen f → MT w S f i b (o + i * 5)) → MC w S f b o
  | .nil, _, _, _ => trivial
  | .node _ _ (_, _, _, _) k r, b, o, h => by
    refine ⟨h 0 (by simp [tlen]), MC_mk fun i hi => ?_⟩
    have := h (i + 1) (by simp only [tlen]; omega)
    rw [show o + (i + 1) * 5 = o + 5 + i * 5 by omega] at this
    exact this

theorem MC_ks {w w' : World} {S : Nat → Prop} (hk : Ks S w w') : ∀ {f : TM} {b o : Nat}, S b → MC w S f b o → MC w' S f b o
  | .nil, _, _, _, _ => trivial
  | .node _ _ (_, _, _, _) k r, b, o, hb, ⟨⟨h1, h2, h3, ⟨pa, pc, h4, h5⟩, a, cap, hc, hr⟩, hrest⟩ => by
    refine ⟨⟨?_, ?_, ?_, ⟨pa, pc, ?_, PS_ks h5.1 hk, h5.2⟩, a, cap, ?_, ?_⟩, MC_ks hk hb hrest⟩
    · rw [hk.cell hb (World.block_lt_of_cell? _ _ h1)]; exact h1
    · rw [hk.cell hb (World.block_lt_of_cell? _ _ h2)]; exact h2
    · rw [hk.cell hb (World.block_lt_of_cell? _ _ h3)]; exact h3
    · rw [hk.cell hb (World.block_lt_of_cell? _ _ h4)]; exact h4
    · rw [hk.cell hb (World.block_lt_of_cell? _ _ hc)]; exact hc
    · rcases hr with h0 | ⟨b', o', e, hb', ht⟩
      · exact Or.inl h0
      · exact Or.inr ⟨b', o', e, hb', MC_ks hk hb' ht⟩

theorem MS_ks {w w' : World} {S : Nat → Prop} {f : TM} {a : Option Addr} (h : MS w S f a) (hk : Ks S w w') : MS w' S f a := by
  rcases h with h | ⟨b, o, e, hb, ht⟩
  · exact Or.inl h
  · exact Or.inr ⟨b, o, e, hb, MC_ks hk hb ht⟩

theorem MC_mono {w : World} {S S' : Nat → Prop} (hl : ∀ b, b < w.heap.size → S b → S' b) : ∀ {f : TM} {b o : Nat}, MC w S f b o → MC w S' f b o
  | .nil, _, _, _ => trivial
  | .node _ _ (_, _, _, _) k r, b, o, ⟨⟨h1, h2, h3, ⟨pa, pc, h4, h5⟩, a, cap, hc, hr⟩, hrest⟩ => by
    refine ⟨⟨h1, h2, h3, ⟨pa, pc, h4, PS_mono h5.1 hl, h5.2⟩, a, cap, hc, ?_⟩, MC_mono hl hrest⟩
    rcases hr with h0 | ⟨b', o', e, hb', ht⟩
    · exact Or.inl h0
    · by_cases h0 : tlen k = 0
      · exact Or.inl h0
      · have hc' := (MC_cell ht 0 (by omega)).1
        exact Or.inr ⟨b', o', e, hl b' (World.block_lt_of_cell? _ _ hc') hb', MC_mono hl ht⟩

theorem MS_mono {w : World} {S S' : Nat → Prop} {f : TM} {a : Option Addr} (h : MS w S f a) (hl : ∀ b, b < w.heap.size → S b → S' b) : MS w S' f a := by
  rcases h with h | ⟨b, o, e, hb, ht⟩
  · exact Or.inl h
  · by_cases h0 : tlen f = 0
    · exact Or.inl h0
    · have hc' := (MC_cell ht 0 (by omega)).1
      exact Or.inr ⟨b, o, e, hl b (World.block_lt_of_cell? _ _ hc') hb, MC_mono hl ht⟩

theorem MS_at {w : World} {S : Nat → Prop} {f : TM} {a : Option Addr} (h : MS w S f a) (h0 : 0 < tlen f) : ∃ b o, a = some ⟨b, o, none⟩ ∧ S b ∧ b < w.heap.size ∧ ∀ i, i < tlen f → MT w S f i b (o + i * 5) := by
  rcases h with h | ⟨b, o, e, hb, ht⟩
  · omega
  · have hc := (MC_cell ht 0 h0).1
    exact ⟨b, o, e, hb, World.block_lt_of_cell? _ _ hc, fun i hi => MC_cell ht i hi⟩

theorem MS_mk {w : World} {S : Nat → Prop} {f : TM} {g o : Nat} (hg : S g) (h : ∀ i, i < tlen f → MT w S f i g (o + i * 5)) : MS w S f (some ⟨g, o, none⟩) :=
  Or.inr ⟨g, o, rfl, hg, MC_mk h⟩

/-- .. all from block lo on. -/
def MA (w : World) (lo : Nat) (f : TM) (a : Option Addr) : Prop := MS w (fun b => lo ≤ b) f a

theorem MA_kp {w w' : World} {lo : Nat} {f : TM} {a : Option Addr} (h : MA w lo f a) (hk : Kp lo w w') : MA w' lo f a := MS_ks h hk.block
theorem MA_lo {w : World} {lo lo' : Nat} {f : TM} {a : Option Addr} (h : MA w lo f a) (hl : lo' ≤ lo) : MA w lo' f a := MS_mono h fun _ _ hb => Nat.le_trans hl hb
theorem MA_below {w w' : World} {lo : Nat} {f : TM} {a : Option Addr} (h : MA w lo f a) (hb : Below w.heap.size w w') : MA w' lo f a := MA_kp h (Kp.of_below hb lo)
theorem MA_nil (w : World) (lo : Nat) (a : Option Addr) : MA w lo .nil a := Or.inl rfl
theorem MA_at {w : World} {lo : Nat} {f : TM} {a : Option Addr} (h : MA w lo f a) (h0 : 0 < tlen f) : ∃ b o, a = some ⟨b, o, none⟩ ∧ lo ≤ b ∧ b < w.heap.size ∧ ∀ i, i < tlen f → MT w (fun b => lo ≤ b) f i b (o + i * 5) := MS_at h h0

/-- All lists are of a length that can be counted. -/
def TSm : TM → Prop
  | .nil => True
  | .node _ _ (_, _, _, p) k r => p.length ≤ 1000000000 ∧ tlen k ≤ 1000000000 ∧ TSm k ∧ TSm r
theorem TSm_kid : ∀ {f : TM}, TSm f → ∀ i, i < tlen f → (tpath f i).length ≤ 1000000000 ∧ tlen (tkid f i) ≤ 1000000000 ∧ TSm (tkid f i)
  | .nil, _, i, h => by simp [tlen] at h
  | .node _ _ (_, _, _, _) k r, hs, 0, _ => ⟨hs.1, hs.2.1, hs.2.2.1⟩
  | .node _ _ (_, _, _, _) k r, hs, i + 1, h => TSm_kid hs.2.2.2 i (by simp only [tlen] at h; omega)

end Go.Proofs.YtldbmlojgakieaaGreatDoor

namespace Go.Proofs.YtldbmlojgakieaaGreatDoor

open Go.RowKit Go.Deep

/-- Of what was there only block rb has turned. -/
structure Fr (rb : Nat) (w w' : World) : Prop where
  os : w'.os = w.os
  tape : w'.tape = w.tape
  output : w'.output = w.output
  size : w.heap.size ≤ w'.heap.size
  block : ∀ k, k < w.heap.size → k ≠ rb → w'.heap[k]? = w.heap[k]?

theorem Fr.refl (rb : Nat) (w : World) : Fr rb w w := ⟨rfl, rfl, rfl, Nat.le_refl _, fun _ _ _ => rfl⟩
theorem Fr.trans {rb : Nat} {a b c : World} (h : Fr rb a b) (k : Fr rb b c) : Fr rb a c :=
  ⟨k.os.trans h.os, k.tape.trans h.tape, k.output.trans h.output, Nat.le_trans h.size k.size, fun i hi hn => (k.block i (Nat.lt_of_lt_of_le hi h.size) hn).trans (h.block i hi hn)⟩
theorem Fr.of_ex {w w' : World} (h : Ex w w') (rb : Nat) : Fr rb w w' := ⟨h.os, h.tape, h.output, h.size, fun k hk _ => h.block k hk⟩
theorem Fr.ex {rb : Nat} {a b c : World} (h : Fr rb a b) (k : Ex b c) : Fr rb a c := h.trans (Fr.of_ex k rb)
theorem Fr.alloc {rb : Nat} {a b : World} (h : Fr rb a b) (o : Obj) : Fr rb a (b.alloc o) := h.ex (Ex.new _ _)
theorem Fr.drew {rb : Nat} {a b : World} (h : Fr rb a b) : Fr rb a b.drew := ⟨h.os, h.tape, h.output, h.size, h.block⟩
theorem Fr.set {rb : Nat} {a b : World} (h : Fr rb a b) {p : Addr} (hp : p.block = rb ∨ a.heap.size ≤ p.block) (v : Value) : Fr rb a (b.setCell p v) :=
  ⟨h.os, h.tape, h.output, by rw [World.size_setCell]; exact h.size, fun k h1 h2 => by rw [Below.heap_setCell _ _ _ _ (by omega)]; exact h.block k h1 h2⟩
theorem Fr.kp {rb lo : Nat} {a b : World} (h : Fr rb a b) (hl : rb < lo) : Kp lo a b := ⟨h.size, fun k h1 h2 => h.block k h2 (by omega)⟩
theorem Fr.blk {rb : Nat} {a b : World} (h : Fr rb a b) {n : Nat} {o : Obj} (hn : n ≠ rb) (hc : a.heap[n]? = some o) : b.heap[n]? = some o := (h.block n (lt_of_block hc) hn).trans hc
theorem Fr.at {rb : Nat} {a b : World} (h : Fr rb a b) {p : Addr} {v : Value} (hn : p.block ≠ rb) (hc : a.cell? p = some v) : b.cell? p = some v :=
  (World.cell?_of_block (w := a) (h.block _ (World.block_lt_of_cell? _ _ hc) hn)).trans hc
theorem Fr.to_ex {rb : Nat} {w a b : World} (h : Fr rb a b) (hx : Ex w a) (hr : w.heap.size ≤ rb) : Ex w b :=
  ⟨h.os.trans hx.os, h.tape.trans hx.tape, h.output.trans hx.output, Nat.le_trans hx.size h.size, fun k hk => (h.block k (Nat.lt_of_lt_of_le hk hx.size) (by omega)).trans (hx.block k hk)⟩

theorem i64_xor_nat (a b : Nat) (ha : a < 4611686018427387904) (hb : b < 4611686018427387904) : bits .xor .i64 (a : Int) (b : Int) = ((a ^^^ b : Nat) : Int) := by
  have hx : a ^^^ b < 2 ^ 62 := Nat.xor_lt_two_pow (by omega) (by omega)
  have h1 : (BitVec.ofInt 64 (a : Int)).toNat = a := by
    rw [BitVec.ofInt_natCast, BitVec.toNat_ofNat]; exact Nat.mod_eq_of_lt (by omega)
  have h2 : (BitVec.ofInt 64 (b : Int)).toNat = b := by
    rw [BitVec.ofInt_natCast, BitVec.toNat_ofNat]; exact Nat.mod_eq_of_lt (by omega)
  show IntKind.i64.wrap ((BitVec.ofInt 64 (a : Int) ^^^ BitVec.ofInt 64 (b : Int)).toNat : Int) = _
  rw [BitVec.toNat_xor, h1, h2]
  simp [IntKind.wrap, IntKind.bits, IntKind.signed]
  omega

theorem pick_val (X n : Int) (h0 : 0 ≤ X) (h1 : X < 4611686018427387904) (hn : 1 ≤ n) : 0 ≤ (bits .xor .i64 X (wrap64 (X.tdiv 64))).tmod n ∧ (bits .xor .i64 X (wrap64 (X.tdiv 64))).tmod n < n := by
  obtain ⟨k, rfl⟩ := Int.eq_ofNat_of_zero_le h0
  have hd : wrap64 ((k : Int).tdiv 64) = ((k / 64 : Nat) : Int) := by
    rw [Int.tdiv_eq_ediv_of_nonneg (by omega)]; unfold wrap64; omega
  rw [hd, i64_xor_nat k (k / 64) (by omega) (by omega), Int.tmod_eq_emod_of_nonneg (by omega)]
  exact ⟨Int.emod_nonneg _ (by omega), Int.emod_lt_of_pos _ (by omega)⟩

theorem pick_x (x y : Int) (p m : Nat) (hx0 : 0 ≤ x) (hx1 : x ≤ 255) (hy0 : 0 ≤ y) (hy1 : y ≤ 255) (hp : p ≤ 1000000) :
    0 ≤ wrap64 (x * 131 + y * 1117 + (p : Int) * 29 + wrap64 (wrap64 ((p : Int) / (m : Int)) * 53)) ∧ wrap64 (x * 131 + y * 1117 + (p : Int) * 29 + wrap64 (wrap64 ((p : Int) / (m : Int)) * 53)) < 4611686018427387904 := by
  obtain ⟨q, hq, hq2⟩ : ∃ q : Nat, (p : Int) / (m : Int) = (q : Int) ∧ q ≤ p := ⟨p / m, rfl, Nat.div_le_self _ _⟩
  rw [hq]
  clear hq
  have w1 : wrap64 (q : Int) = q := by unfold wrap64; omega
  have w2 : wrap64 ((q : Int) * 53) = (q : Int) * 53 := by unfold wrap64; omega
  have w3 : wrap64 (x * 131 + y * 1117 + (p : Int) * 29 + (q : Int) * 53) = x * 131 + y * 1117 + (p : Int) * 29 + (q : Int) * 53 := by unfold wrap64; omega
  rw [w1, w2, w3]
  omega

end Go.Proofs.YtldbmlojgakieaaGreatDoor

namespace Go.Proofs.YtldbmlojgakieaaGreatDoor

open Go.RowKit Go.Deep

attribute [local go_sem ↓] Go.wp_at_zero Go.wp_at_succ

/-- Bytes lie behind a slice's address. -/
def By (w : World) (n : Nat) (ca : Option Addr) : Prop := n = 0 ∨ ∃ cb co, ca = some ⟨cb, co, none⟩ ∧ ∀ i, i < n → ∃ x : Int, w.cell? ⟨cb, co + i, none⟩ = some (.int .u8 x) ∧ 0 ≤ x ∧ x ≤ 255

theorem By.ex {w w' : World} {n : Nat} {ca : Option Addr} (h : By w n ca) (hx : Ex w w') : By w' n ca := by
  rcases h with h | ⟨cb, co, e, hc⟩
  · exact Or.inl h
  · exact Or.inr ⟨cb, co, e, fun i hi => by obtain ⟨x, h1, h2⟩ := hc i hi; exact ⟨x, hx.at h1, h2⟩⟩

/-- How many bytes are read at most. -/
def tk : Nat → Nat
  | 0 => 0
  | d + 1 => 2 * tk d + 1

end Go.Proofs.YtldbmlojgakieaaGreatDoor

namespace Go.Proofs.YtldbmlojgakieaaGreatDoor

open Go.RowKit Go.Deep

open Go.WideShapes (add_plain)

attribute [local go_sem ↓] Go.wp_at_zero Go.wp_at_succ

theorem fits_sm : ∀ (r : Nat) (f : F), fits r f = true → len f ≤ 2 ∧ Sm f
  | 0, f, h => by simp [fits] at h
  | r + 1, .nil, _ => ⟨by simp [len], trivial⟩
  | r + 1, .node b o n k (.nil), h => by simp [fits, len] at h
  | r + 1, .node b o n k (.node b' o' n' k' .nil), h => by
    simp [fits, len, kid] at h
    have h1 := fits_sm r k h.1
    have h2 := fits_sm r k' h.2
    exact ⟨by simp [len], ⟨by omega, h1.2, ⟨by omega, h2.2, trivial⟩⟩⟩
  | r + 1, .node b o n k (.node b' o' n' k' (.node _ _ _ _ _)), h => by simp [fits, len] at h

theorem fits_dep : ∀ (r : Nat) (f : F), fits r f = true → dep f < r
  | 0, f, h => by simp [fits] at h
  | r + 1, .nil, _ => by simp [dep]
  | r + 1, .node b o n k (.nil), h => by simp [fits, len] at h
  | r + 1, .node b o n k (.node b' o' n' k' .nil), h => by
    simp [fits, len, kid] at h
    have h1 := fits_dep r k h.1
    have h2 := fits_dep r k' h.2
    simp only [dep]; omega
  | r + 1, .node b o n k (.node b' o' n' k' (.node _ _ _ _ _)), h => by simp [fits, len] at h

theorem Sm_two {a b : F} (n m : Int) (ha : len a ≤ 1000000000 ∧ Sm a) (hb : len b ≤ 1000000000 ∧ Sm b) : len (two n a m b) ≤ 1000000000 ∧ Sm (two n a m b) :=
  ⟨by rw [len_two]; omega, ⟨ha.1, ha.2, ⟨hb.1, hb.2, trivial⟩⟩⟩

/-- One more behind. -/
def snoc : F → Int → F → F
  | .nil, n, k => .node 0 0 n k .nil
  | .node b o m k' r, n, k => .node b o m k' (snoc r n k)
theorem len_snoc : ∀ (f : F) (n : Int) (k : F), len (snoc f n k) = len f + 1
  | .nil, _, _ => rfl
  | .node _ _ _ _ r, n, k => by simp [snoc, len, len_snoc r n k]
theorem kid_snoc : ∀ (f : F) (n : Int) (k : F) (i : Nat), kid (snoc f n k) i = if i < len f then kid f i else if i = len f then k else .nil
  | .nil, n, k, 0 => by simp [snoc, kid, len]
  | .nil, n, k, i + 1 => by simp [snoc, kid, len]
  | .node _ _ _ _ r, n, k, 0 => by simp [snoc, kid, len]
  | .node _ _ _ _ r, n, k, i + 1 => by simp [snoc, kid, len, kid_snoc r n k i]
theorem dep_snoc : ∀ (f : F) (n : Int) (k : F), dep (snoc f n k) = max (dep f) (dep k + 1)
  | .nil, _, _ => by simp [snoc, dep]
  | .node _ _ _ k' r, n, k => by simp only [snoc, dep, dep_snoc r n k]; omega
theorem Sm_snoc : ∀ {f : F} (n : Int) {k : F}, Sm f → len k ≤ 1000000000 ∧ Sm k → Sm (snoc f n k)
  | .nil, _, _, _, hk => ⟨hk.1, hk.2, trivial⟩
  | .node _ _ _ _ _, n, _, hf, hk => ⟨hf.1, hf.2.1, Sm_snoc n hf.2.2 hk⟩

/-- The cells of a list of types. -/
theorem SA_olds {w : World} {S : Nat → Prop} {f : F} {a : Option Addr} (h : SA w S f a) : ∃ olds : List Value, olds.length = len f ∧ (∀ b, a = some b → ∀ j u, olds[j]? = some u → w.cell? (b.add j) = some u) ∧
    ∀ i, i < len f → ∃ a' cap, olds[i]? = some (.slice a' (len (kid f i)) cap) ∧ SA w S (kid f i) a' := by
  by_cases h0 : len f = 0
  · exact ⟨[], by simp [h0], by intro _ _ j u hu; simp at hu, fun i hi => by omega⟩
  · obtain ⟨b, o, rfl, _, _, hk⟩ := SA_at h (by omega)
    refine ⟨(List.range (len f)).map fun i => (w.cell? ⟨b, o + i, none⟩).getD default, by simp, ?_, ?_⟩
    · intro b' hb' j u hu
      cases hb'
      rw [List.getElem?_map] at hu
      by_cases hj : j < len f
      · rw [List.getElem?_range hj] at hu
        obtain ⟨a', cap, hc, _⟩ := hk j hj
        simp [hc] at hu
        subst hu
        rw [add_plain]; exact hc
      · rw [List.getElem?_eq_none (by simpa using hj)] at hu; simp at hu
    · intro i hi
      obtain ⟨a', cap, hc, ht⟩ := hk i hi
      exact ⟨a', cap, by rw [List.getElem?_map, List.getElem?_range hi]; simp [hc], ht⟩

theorem SA_snoc {w : World} {S : Nat → Prop} {f k : F} {n : Int} {olds : List Value} {g : Nat} {cur : Array Value} {e : TypeId} {a0 : Option Addr} {c0 : Nat} (hS : S g) (hg : w.heap[g]? = some (.cells cur e (0, 0)))
    (hcur : cur.toList.take (len f + 1) = olds ++ [.slice a0 (len k) c0]) (hl : olds.length = len f) (hk : ∀ i, i < len f → ∃ a' cap, olds[i]? = some (.slice a' (len (kid f i)) cap) ∧ SA w S (kid f i) a') (h0 : SA w S k a0) :
    SA w S (snoc f n k) (some ⟨g, 0, none⟩) := by
  refine SA_mk hS fun i hi => ?_
  rw [len_snoc] at hi
  have hcell : w.cell? ⟨g, 0 + i, none⟩ = (olds ++ [.slice a0 (len k) c0])[i]? := by
    rw [← hcur, List.getElem?_take_of_lt hi]
    simp [World.cell?, hg]
  rw [hcell, kid_snoc]
  by_cases h : i < len f
  · obtain ⟨a', cap, h1, h2⟩ := hk i h
    exact ⟨a', cap, by rw [List.getElem?_append_left (by omega), h1, if_pos h], by rw [if_pos h]; exact h2⟩
  · have e : i = len f := by omega
    exact ⟨a0, c0, by rw [List.getElem?_append_right (by omega), if_neg h, if_pos e]; simp [hl, e], by rw [if_neg h, if_pos e]; exact h0⟩

theorem Tryz.info97 : (Tryz.prog.info? 97).map (fun i => (i.zero, i.size, i.bytes)) = some (some (.agg #[.slice none 0 0]), 1, 24) := by kernel_rfl

end Go.Proofs.YtldbmlojgakieaaGreatDoor

namespace Go.Proofs.YtldbmlojgakieaaGreatDoor

open Go.RowKit Go.Deep

attribute [local go_sem ↓] Go.wp_at_zero Go.wp_at_succ

/-- Two types are the same. -/
def eqT : F → F → Bool
  | .nil, .nil => true
  | .node _ _ _ k r, .node _ _ _ k' r' => eqT k k' && eqT r r'
  | .nil, .node _ _ _ _ _ => false
  | .node _ _ _ _ _, .nil => false

theorem eqT_refl : ∀ f : F, eqT f f = true
  | .nil => rfl
  | .node _ _ _ k r => by simp [eqT, eqT_refl k, eqT_refl r]

theorem eqT_len : ∀ (f g : F), len f ≠ len g → eqT f g = false
  | .nil, .nil, h => by simp [len] at h
  | .node _ _ _ k r, .node _ _ _ k' r', h => by
    have : eqT r r' = false := eqT_len r r' (by simp only [len] at h; omega)
    simp [eqT, this]
  | .nil, .node _ _ _ _ _, _ => rfl
  | .node _ _ _ _ _, .nil, _ => rfl

theorem eqT_bad : ∀ (f g : F) (i : Nat), i < len f → eqT (kid f i) (kid g i) = false → eqT f g = false
  | .nil, _, i, h, _ => by simp [len] at h
  | .node _ _ _ k r, .nil, _, _, _ => rfl
  | .node _ _ _ k r, .node _ _ _ k' r', 0, _, h => by simp only [kid] at h; simp [eqT, h]
  | .node _ _ _ k r, .node _ _ _ k' r', i + 1, hi, h => by
    have := eqT_bad r r' i (by simp only [len] at hi; omega) h
    simp [eqT, this]

theorem eqT_good : ∀ (f g : F), len f = len g → (∀ i, i < len f → eqT (kid f i) (kid g i) = true) → eqT f g = true
  | .nil, .nil, _, _ => rfl
  | .node _ _ _ k r, .node _ _ _ k' r', hl, h => by
    have h0 : eqT k k' = true := h 0 (by simp [len])
    have h1 : eqT r r' = true := eqT_good r r' (by simp only [len] at hl; omega) fun i hi => h (i + 1) (by simp only [len]; omega)
    simp [eqT, h0, h1]
  | .nil, .node _ _ _ _ _, hl, _ => by simp [len] at hl
  | .node _ _ _ _ _, .nil, hl, _ => by simp [len] at hl

end Go.Proofs.YtldbmlojgakieaaGreatDoor

namespace Go.Proofs.YtldbmlojgakieaaGreatDoor

open Go.RowKit Go.Deep

attribute [local go_sem ↓] Go.wp_at_zero Go.wp_at_succ

theorem Tryz.info3 : (Tryz.prog.info? 3).map (fun i => (i.zero, i.size, i.bytes)) = some (some (.int .i64 0), 1, 8) := by kernel_rfl

theorem heap_alloc_at (w : World) (o : Obj) {n : Nat} (h : n = w.heap.size) : (w.alloc o).heap[n]? = some o := by subst h; exact heap_alloc_new _ _

/-- Numbers in memory that the call itself has made. -/
abbrev Own (w : World) (base : Nat) (v : Value) (xs : List Int) : Prop := w.ownsRow base 3 1 v xs.length (xs.map (Value.int .i64))

theorem Own.PA {w : World} {base : Nat} {v : Value} {xs : List Int} (h : Own w base v xs) : ∃ pa pc, v = .slice pa xs.length pc ∧ PA w base xs pa ∧ xs.length ≤ pc ∧ pc ≤ 9223372036854775807 ∧ ((pa = none ∧ pc = 0) ∨ ∃ g, pa = some ⟨g, 0, none⟩) := by
  obtain ⟨_, ⟨rfl, h0⟩ | ⟨g, cap, cur, rfl, hg, hgc, hcap, hcm, _, ht⟩⟩ := h
  · exact ⟨none, 0, by rw [h0], Or.inl h0, by omega, by omega, Or.inl ⟨rfl, rfl⟩⟩
  · refine ⟨some ⟨g, 0, none⟩, cap, rfl, Or.inr ⟨g, 0, rfl, hg, fun i hi => ?_⟩, hcap, by unfold maxLen at hcm; omega, Or.inr ⟨g, rfl⟩⟩
    have : (cur.toList.take (xs.length * 1))[i]? = (xs.map (Value.int .i64))[i]? := by rw [ht]
    rw [Nat.mul_one, List.getElem?_take_of_lt hi, List.getElem?_map] at this
    simp [World.cell?, hgc]
    simp at this
    rw [this]
    simp [hi]

theorem Own.keep {w w' : World} {base : Nat} {v : Value} {xs : List Int} (h : Own w base v xs) (hk : Kp base w w') : Own w' base v xs := by
  obtain ⟨h1, h2 | ⟨g, cap, cur, rfl, hg, hgc, r⟩⟩ := h
  · exact ⟨h1, Or.inl h2⟩
  · exact ⟨h1, Or.inr ⟨g, cap, cur, rfl, hg, (hk.block g hg (lt_of_block hgc)).trans hgc, r⟩⟩

theorem Own.lo {w : World} {base base' : Nat} {v : Value} {xs : List Int} (h : Own w base v xs) (hb : base' ≤ base) : Own w base' v xs := by
  obtain ⟨h1, h2 | ⟨g, cap, cur, rfl, hg, r⟩⟩ := h
  · exact ⟨h1, Or.inl h2⟩
  · exact ⟨h1, Or.inr ⟨g, cap, cur, rfl, Nat.le_trans hb hg, r⟩⟩
theorem Own.row {w : World} {base : Nat} {v : Value} {xs : List Int} (h : Own w base v xs) : ∀ k, v.ownBlock = some k → base ≤ k := by
  obtain ⟨_, ⟨rfl, _⟩ | ⟨g, cap, cur, rfl, hg, _⟩⟩ := h
  · intro k hk; cases hk
  · intro k hk; cases hk; exact hg
theorem Fr.below {rb B : Nat} {a b c : World} (h : Fr rb a b) (k : Below B b c) (hB : a.heap.size ≤ B) : Fr rb a c :=
  ⟨k.os.trans h.os, k.tape.trans h.tape, k.output.trans h.output, Nat.le_trans h.size k.size, fun i hi hn => (k.block i (by omega)).trans (h.block i hi hn)⟩

/-- While a region goes on: of W only blocks rb and n have turned, and block n has c cells of type t that may be written. -/
def FC (rb n c : Nat) (t : TypeId) (W w : World) : Prop := (w.os = W.os ∧ w.tape = W.tape ∧ w.output = W.output ∧ W.heap.size ≤ w.heap.size) ∧ (∀ k, k < W.heap.size → k ≠ rb → k ≠ n → w.heap[k]? = W.heap[k]?) ∧ ∃ vs : Array Value, vs.size = c ∧ w.heap[n]? = some (.cells vs t (0, 0))
theorem FC.start {rb n c : Nat} {t : TypeId} {W : World} {vs : Array Value} (h : W.heap[n]? = some (.cells vs t (0, 0))) (hc : vs.size = c) : FC rb n c t W W := ⟨⟨rfl, rfl, rfl, Nat.le_refl _⟩, fun _ _ _ _ => rfl, vs, hc, h⟩
theorem FC.drew {rb n c : Nat} {t : TypeId} {W w : World} (h : FC rb n c t W w) : FC rb n c t W w.drew := h
theorem FC.fr {rb n c : Nat} {t : TypeId} {W w w' : World} (h : FC rb n c t W w) (hf : Fr rb w w') (hn : n ≠ rb) : FC rb n c t W w' := by
  obtain ⟨⟨h1, h2, h3, h4⟩, h5, vs, h6, h7⟩ := h
  exact ⟨⟨hf.os.trans h1, hf.tape.trans h2, hf.output.trans h3, Nat.le_trans h4 hf.size⟩, fun k hk e1 e2 => (hf.block k (Nat.lt_of_lt_of_le hk h4) e1).trans (h5 k hk e1 e2), vs, h6, hf.blk hn h7⟩
theorem FC.ex {rb n c : Nat} {t : TypeId} {W w w' : World} (h : FC rb n c t W w) (hf : Ex w w') (hn : n ≠ rb) : FC rb n c t W w' := h.fr (Fr.of_ex hf _) hn
theorem FC.set {rb n c : Nat} {t : TypeId} {W w : World} (h : FC rb n c t W w) (i : Nat) (v : Value) : FC rb n c t W (w.setCell ⟨n, i, none⟩ v) := by
  obtain ⟨⟨h1, h2, h3, h4⟩, h5, vs, h6, h7⟩ := h
  refine ⟨⟨h1, h2, h3, by rw [World.size_setCell]; exact h4⟩, fun k hk e1 e2 => by rw [Below.heap_setCell _ _ _ _ e2]; exact h5 k hk e1 e2, vs.setIfInBounds i v, by simp [h6], ?_⟩
  simp [World.setCell, Array.getElem?_modify, h7]
theorem FC.cell {rb n c : Nat} {t : TypeId} {W w : World} (h : FC rb n c t W w) (i : Nat) (hi : i < c) : ∃ v, w.cell? ⟨n, i, none⟩ = some v := by
  obtain ⟨_, _, vs, h6, h7⟩ := h
  exact ⟨vs[i]'(by omega), by simp [World.cell?, h7, h6, hi]⟩
theorem FC.frozen {rb n c : Nat} {t : TypeId} {W w : World} (h : FC rb n c t W w) (i : Nat) : w.frozen? ⟨n, i, none⟩ = false := by
  obtain ⟨_, _, vs, h6, h7⟩ := h
  simp [World.frozen?, h7]
theorem FC.at {rb n c : Nat} {t : TypeId} {W w : World} (h : FC rb n c t W w) {p : Addr} {v : Value} (h1 : p.block ≠ rb) (h2 : p.block ≠ n) (hc : W.cell? p = some v) : w.cell? p = some v :=
  (World.cell?_of_block (w := W) (h.2.1 _ (World.block_lt_of_cell? _ _ hc) h1 h2)).trans hc
theorem FC.kp {rb n c lo : Nat} {t : TypeId} {W w : World} (h : FC rb n c t W w) (h1 : rb < lo) (h2 : n < lo) : Kp lo W w := ⟨h.1.2.2.2, fun k hk hk2 => h.2.1 k hk2 (by omega) (by omega)⟩
theorem FC.to_ex {rb n c : Nat} {t : TypeId} {w0 W w : World} (h : FC rb n c t W w) (hx : Ex w0 W) (h1 : w0.heap.size ≤ rb) (h2 : w0.heap.size ≤ n) : Ex w0 w :=
  ⟨h.1.1.trans hx.os, h.1.2.1.trans hx.tape, h.1.2.2.1.trans hx.output, Nat.le_trans hx.size h.1.2.2.2, fun k hk => (h.2.1 k (Nat.lt_of_lt_of_le hk hx.size) (by omega) (by omega)).trans (hx.block k hk)⟩

end Go.Proofs.YtldbmlojgakieaaGreatDoor

namespace Go.Proofs.YtldbmlojgakieaaGreatDoor

open Go.RowKit Go.Deep

attribute [local go_sem ↓] Go.wp_at_zero Go.wp_at_succ

theorem l6In_any (n lo hi : Int) (w : World) : Calls Tryz.prog 91 #[.int .i64 n, .int .i64 lo, .int .i64 hi] w fun e w' => e = .returned (.bool (decide (lo ≤ n ∧ n ≤ hi))) ∧ Ex w w' := by
  by_cases h : lo ≤ n
  · have e0 : decide (lo ≤ n) = true := by simp [h]
    go_enter Tryz.func91, Tryz.ntmps91
    go_wp2_with fail
    go_ret
    exact ⟨ret_b (by simp [h]), Ex.refl _⟩
  · have e0 : decide (lo ≤ n) = false := by simp; omega
    go_enter Tryz.func91, Tryz.ntmps91
    go_wp2_with fail
    go_ret
    exact ⟨ret_b (by simp), Ex.refl _⟩

theorem owns_ex {w w' : World} {base : Nat} {e : TypeId} {size : Nat} {v : Value} {n : Nat} {xs : List Value} (h : w.ownsRow base e size v n xs) (hx : Ex w w') : w'.ownsRow base e size v n xs := by
  obtain ⟨h1, h2 | ⟨g, cap, cur, rfl, hg, hgc, r⟩⟩ := h
  · exact ⟨h1, Or.inl h2⟩
  · exact ⟨h1, Or.inr ⟨g, cap, cur, rfl, hg, hx.blk hgc, r⟩⟩
theorem owns_row {w : World} {base : Nat} {e : TypeId} {size : Nat} {v : Value} {n : Nat} {xs : List Value} (h : w.ownsRow base e size v n xs) : ∀ k, v.ownBlock = some k → base ≤ k := by
  obtain ⟨_, ⟨rfl, _⟩ | ⟨g, cap, cur, rfl, hg, _⟩⟩ := h
  · intro k hk; cases hk
  · intro k hk; cases hk; exact hg
theorem grown_blk {w w' : World} {v : Value} {base n : Nat} {o o' : Obj} (h : (w.alloc o').grownBy w' v.ownBlock) (hr : ∀ k, v.ownBlock = some k → base ≤ k) (hn : n < base) (hb : w.heap[n]? = some o) : w'.heap[n]? = some o := by
  have hlt := lt_of_block hb
  exact (h.block n (by rw [World.size_alloc]; omega) (fun e => by have := hr n e.symm; omega)).trans ((Ex.new _ _).blk hb)

theorem Ex.grown {a b c : World} {v : Value} {base : Nat} {o : Obj} (h : Ex a b) (hg : (b.alloc o).grownBy c v.ownBlock) (hr : ∀ k, v.ownBlock = some k → base ≤ k) (hb : a.heap.size ≤ base) : Ex a c :=
  ⟨hg.os.trans h.os, hg.tape.trans h.tape, hg.output.trans h.output, Nat.le_trans (h.alloc o).size hg.size, fun k hk => (hg.block k (Nat.lt_of_lt_of_le hk (h.alloc o).size) (fun e => by have := hr k e.symm; omega)).trans ((h.alloc o).block k hk)⟩

theorem kids_step {wr w1 w2 : World} {base k gg cap k2 out : Nat} {e : TypeId} {v u : Value} {cs : List Value} {f : F} {a2 : Option Addr} {o' : Obj}
    (O : wr.ownsRow base e 1 v k cs) (hb2 : Ex wr w1) (hgrow : (w1.alloc o').grownBy w2 v.ownBlock) (hat : v.ownBlock = some gg ∨ gg = w1.heap.size + 1) (hout : out < base)
    (KI : ∀ j, j < k → ∃ a' c', cs[j]? = some (.slice a' (len (kid f j)) c') ∧ SA wr (fun b => base ≤ b ∧ v.ownBlock ≠ some b) (kid f j) a')
    (ht2 : TA w1 wr.heap.size (kid f k) a2) (hbase : base ≤ wr.heap.size) :
    ∀ j, j < k + 1 → ∃ a' c', (cs ++ [Value.slice a2 (len (kid f k)) k2])[j]? = some (.slice a' (len (kid f j)) c') ∧ SA (w2.setCell ⟨out, 0, none⟩ u) (fun b => base ≤ b ∧ (Value.slice (some ⟨gg, 0, none⟩) (k + 1) cap).ownBlock ≠ some b) (kid f j) a' := by
  have hcs : cs.length = k := by have := O.1; omega
  have hvb : ∀ g, v.ownBlock = some g → g < wr.heap.size := by
    obtain ⟨_, ⟨rfl, _⟩ | ⟨g, c, cur, rfl, hg, hgc, _⟩⟩ := O
    · intro g hg; cases hg
    · intro g' hg'; cases hg'; exact lt_of_block hgc
  have move : ∀ (g : F) (a' : Option Addr), SA w1 (fun b => base ≤ b ∧ v.ownBlock ≠ some b) g a' → SA (w2.setCell ⟨out, 0, none⟩ u) (fun b => base ≤ b ∧ (Value.slice (some ⟨gg, 0, none⟩) (k + 1) cap).ownBlock ≠ some b) g a' := by
    intro g a' h
    have h1 := SA_mono (S' := fun b => base ≤ b ∧ v.ownBlock ≠ some b ∧ b < w1.heap.size) h fun b hb hs => ⟨hs.1, hs.2, hb⟩
    have h2 : SA w2 (fun b => base ≤ b ∧ v.ownBlock ≠ some b ∧ b < w1.heap.size) g a' := SA_ks h1 fun b hs hlt => (hgrow.block b (by rw [World.size_alloc]; omega) (fun e => hs.2.1 e.symm)).trans ((Ex.new _ _).block b hlt)
    have h3 : SA (w2.setCell ⟨out, 0, none⟩ u) (fun b => base ≤ b ∧ v.ownBlock ≠ some b ∧ b < w1.heap.size) g a' := SA_ks h2 fun b hs _ => Below.heap_setCell _ _ _ _ (by show b ≠ out; omega)
    refine SA_mono h3 fun b _ hs => ⟨hs.1, fun e => ?_⟩
    have e' : gg = b := by simpa [Value.ownBlock] using e
    rcases hat with h | h
    · exact hs.2.1 (by rw [h, e'])
    · have := hs.2.2; omega
  intro j hj
  by_cases h : j < k
  · obtain ⟨a', c', h1, h2⟩ := KI j h
    exact ⟨a', c', by rw [List.getElem?_append_left (by omega)]; exact h1, move _ _ (SA_ks h2 fun b _ hlt => hb2.block b hlt)⟩
  · have e : j = k := by omega
    subst e
    refine ⟨a2, k2, by rw [List.getElem?_append_right (by omega)]; simp [hcs], move _ _ (SA_mono ht2 fun b _ hb => ⟨Nat.le_trans hbase hb, fun e => by have := hvb b e; omega⟩)⟩

theorem fits_kid_ex {r : Nat} {g : F} (h : fits r g = true) (hr : r ≤ 4) (i : Nat) (hi : i < len g) : ∃ r', r' ≤ 4 ∧ fits r' (kid g i) = true := by
  cases r with
  | zero => simp [fits] at h
  | succ r =>
    have h2 : len g = 2 := by have := fits_len h; omega
    rw [fits_two h2, Bool.and_eq_true] at h
    have : i = 0 ∨ i = 1 := by omega
    rcases this with rfl | rfl
    · exact ⟨r, by omega, h.1⟩
    · exact ⟨r, by omega, h.2⟩

end Go.Proofs.YtldbmlojgakieaaGreatDoor

namespace Go.Proofs.YtldbmlojgakieaaGreatDoor

open Go.RowKit Go.Deep

attribute [local go_sem ↓] Go.wp_at_zero Go.wp_at_succ

/-- A byte of a text. -/
def wbt (s : ByteArray) (i : Nat) : Nat := (s.data.toList.getD i 0).toNat
theorem wbt_at (s : ByteArray) (i : Nat) (h : i < s.size) : (s[i]'h).toNat = wbt s i := by
  obtain ⟨⟨l⟩⟩ := s
  have hl : i < l.length := h
  show ((ByteArray.mk ⟨l⟩)[i]'hl).toNat = (l.getD i 0).toNat
  simp only [List.getD, List.getElem?_eq_getElem hl, Option.getD_some]
  rfl

def wletter (n : Nat) : Bool := decide (97 ≤ n ∧ n ≤ 122 ∨ 65 ≤ n ∧ n ≤ 90 ∨ 48 ≤ n ∧ n ≤ 57 ∨ n = 95)
/-- 1 to 12 letters, figures and underscores. -/
def wordB (s : ByteArray) : Bool := decide (1 ≤ s.size) && decide (s.size ≤ 12) && (List.range s.size).all fun i => wletter (wbt s i)

theorem wordB_no {s : ByteArray} {i : Nat} (h : i < s.size) (hb : wletter (wbt s i) = false) : wordB s = false := by
  cases hn : wordB s with
  | false => rfl
  | true =>
    simp only [wordB, Bool.and_eq_true, List.all_eq_true, List.mem_range] at hn
    rw [hn.2 i h] at hb; cases hb
theorem wordB_yes {s : ByteArray} (h1 : 1 ≤ s.size) (h2 : s.size ≤ 12) (h : ∀ i, i < s.size → wletter (wbt s i) = true) : wordB s = true := by
  simp only [wordB, Bool.and_eq_true, List.all_eq_true, List.mem_range, decide_eq_true_eq]
  exact ⟨⟨h1, h2⟩, h⟩
theorem wordB_size {s : ByteArray} (h : s.size < 1 ∨ 12 < s.size) : wordB s = false := by
  simp only [wordB]
  rcases h with h | h
  · simp [show ¬ 1 ≤ s.size by omega]
  · simp [show ¬ s.size ≤ 12 by omega]

theorem upto_succ {P : Nat → Prop} {k : Nat} (h : ∀ j, j < k → P j) (hk : P k) : ∀ j, j < k + 1 → P j := fun j hj => by
  rcases Nat.lt_or_eq_of_le (Nat.le_of_lt_succ hj) with h1 | h1
  · exact h j h1
  · exact h1 ▸ hk

theorem byte_class (n : Nat) : n < 48 ∨ (48 ≤ n ∧ n ≤ 57) ∨ (58 ≤ n ∧ n ≤ 64) ∨ (65 ≤ n ∧ n ≤ 90) ∨ (91 ≤ n ∧ n ≤ 94) ∨ n = 95 ∨ n = 96 ∨ (97 ≤ n ∧ n ≤ 122) ∨ 123 ≤ n := by omega

set_option maxHeartbeats 2000000 in
theorem l12Word_any (s : ByteArray) (w : World) : Calls Tryz.prog 46 #[.string s] w fun e w' => e = .returned (.bool (wordB s)) ∧ Ex w w' := by
  by_cases h1 : s.size < 1
  · have HR : Hid (wordB s = false) := wordB_size (Or.inl h1)
    have d1 : decide ((s.size : Int) < 1) = true := by simp; omega
    go_enter Tryz.func46, Tryz.ntmps46
    go_wp2_with fail
    go_ret
    exact ⟨ret_b HR.out.symm, Ex.refl _⟩
  by_cases h6 : 12 < s.size
  · have HR : Hid (wordB s = false) := wordB_size (Or.inr h6)
    have d1 : decide ((s.size : Int) < 1) = false := by simp; omega
    have d2 : decide ((12 : Int) < (s.size : Int)) = true := by simp; omega
    go_enter Tryz.func46, Tryz.ntmps46
    go_wp2_with fail
    go_ret
    exact ⟨ret_b HR.out.symm, Ex.refl _⟩
  have d1 : decide ((s.size : Int) < 1) = false := by simp; omega
  have d2 : decide ((12 : Int) < (s.size : Int)) = false := by simp; omega
  go_enter Tryz.func46, Tryz.ntmps46
  go_wp2_with fail
  go_loopw [3] (fun i wr => ∃ (k : Nat), k ≤ s.size ∧ i = .int .i64 k ∧ (∀ j, j < k → wletter (wbt s j) = true) ∧ Ex w wr) (fun i _ => s.size - (intOf i).toNat)
  case atStart => exact ⟨0, by omega, rfl, fun j hj => by omega, Ex.refl _⟩
  case round =>
    obtain ⟨k, hk, rfl, hall, hx⟩ := hrel
    have A : Hid (∀ j, j < k → wletter (wbt s j) = true) := hall
    have X : Hid (Ex w wr) := hx
    clear hall hx
    by_cases hlt : k < s.size
    · have hb := wbt_at s k hlt
      have N : Hid (wletter (wbt s k) = false → wordB s = false) := wordB_no hlt
      have U : Hid (wletter (wbt s k) = true → ∀ j, j < k + 1 → wletter (wbt s j) = true) := fun h => upto_succ A.out h
      obtain ⟨n, hn⟩ : ∃ n, wbt s k = n := ⟨_, rfl⟩
      rw [hn] at hb N U
      clear hn
      rcases byte_class n with h | h | h | h | h | h | h | h | h
      · have w1 : decide (((s[k]'hlt).toNat : Int) < 97) = true := by rw [hb]; simp; omega
        have w2 : decide ((122 : Int) < ((s[k]'hlt).toNat : Int)) = false := by rw [hb]; simp; omega
        have w3 : decide (((s[k]'hlt).toNat : Int) < 65) = true := by rw [hb]; simp; omega
        have w4 : decide ((90 : Int) < ((s[k]'hlt).toNat : Int)) = false := by rw [hb]; simp; omega
        have w5 : decide (((s[k]'hlt).toNat : Int) < 48) = true := by rw [hb]; simp; omega
        have w6 : decide ((57 : Int) < ((s[k]'hlt).toNat : Int)) = false := by rw [hb]; simp; omega
        have w7 : (((s[k]'hlt).toNat : Int) != 95) = true := by rw [hb]; simp; omega
        have L : Hid (wletter n = false) := by show wletter n = _; simp [wletter]; omega
        clear hb h
        go_wp2_with fail
        go_ret
        exact ⟨ret_b (N.out L.out).symm, X.out⟩
      · have w1 : decide (((s[k]'hlt).toNat : Int) < 97) = true := by rw [hb]; simp; omega
        have w2 : decide ((122 : Int) < ((s[k]'hlt).toNat : Int)) = false := by rw [hb]; simp; omega
        have w3 : decide (((s[k]'hlt).toNat : Int) < 65) = true := by rw [hb]; simp; omega
        have w4 : decide ((90 : Int) < ((s[k]'hlt).toNat : Int)) = false := by rw [hb]; simp; omega
        have w5 : decide (((s[k]'hlt).toNat : Int) < 48) = false := by rw [hb]; simp; omega
        have w6 : decide ((57 : Int) < ((s[k]'hlt).toNat : Int)) = false := by rw [hb]; simp; omega
        have w7 : (((s[k]'hlt).toNat : Int) != 95) = true := by rw [hb]; simp; omega
        have L : Hid (wletter n = true) := by show wletter n = _; simp [wletter]; omega
        clear hb h
        go_wp2_with fail
        go_roundw
        case rel => exact ⟨k + 1, by omega, by go_num, U.out L.out, X.out⟩
        case measure => simp [intOf]; omega
      · have w1 : decide (((s[k]'hlt).toNat : Int) < 97) = true := by rw [hb]; simp; omega
        have w2 : decide ((122 : Int) < ((s[k]'hlt).toNat : Int)) = false := by rw [hb]; simp; omega
        have w3 : decide (((s[k]'hlt).toNat : Int) < 65) = true := by rw [hb]; simp; omega
        have w4 : decide ((90 : Int) < ((s[k]'hlt).toNat : Int)) = false := by rw [hb]; simp; omega
        have w5 : decide (((s[k]'hlt).toNat : Int) < 48) = false := by rw [hb]; simp; omega
        have w6 : decide ((57 : Int) < ((s[k]'hlt).toNat : Int)) = true := by rw [hb]; simp; omega
        have w7 : (((s[k]'hlt).toNat : Int) != 95) = true := by rw [hb]; simp; omega
        have L : Hid (wletter n = false) := by show wletter n = _; simp [wletter]; omega
        clear hb h
        go_wp2_with fail
        go_ret
        exact ⟨ret_b (N.out L.out).symm, X.out⟩
      · have w1 : decide (((s[k]'hlt).toNat : Int) < 97) = true := by rw [hb]; simp; omega
        have w2 : decide ((122 : Int) < ((s[k]'hlt).toNat : Int)) = false := by rw [hb]; simp; omega
        have w3 : decide (((s[k]'hlt).toNat : Int) < 65) = false := by rw [hb]; simp; omega
        have w4 : decide ((90 : Int) < ((s[k]'hlt).toNat : Int)) = false := by rw [hb]; simp; omega
        have w5 : decide (((s[k]'hlt).toNat : Int) < 48) = false := by rw [hb]; simp; omega
        have w6 : decide ((57 : Int) < ((s[k]'hlt).toNat : Int)) = true := by rw [hb]; simp; omega
        have w7 : (((s[k]'hlt).toNat : Int) != 95) = true := by rw [hb]; simp; omega
        have L : Hid (wletter n = true) := by show wletter n = _; simp [wletter]; omega
        clear hb h
        go_wp2_with fail
        go_roundw
        case rel => exact ⟨k + 1, by omega, by go_num, U.out L.out, X.out⟩
        case measure => simp [intOf]; omega
      · have w1 : decide (((s[k]'hlt).toNat : Int) < 97) = true := by rw [hb]; simp; omega
        have w2 : decide ((122 : Int) < ((s[k]'hlt).toNat : Int)) = false := by rw [hb]; simp; omega
        have w3 : decide (((s[k]'hlt).toNat : Int) < 65) = false := by rw [hb]; simp; omega
        have w4 : decide ((90 : Int) < ((s[k]'hlt).toNat : Int)) = true := by rw [hb]; simp; omega
        have w5 : decide (((s[k]'hlt).toNat : Int) < 48) = false := by rw [hb]; simp; omega
        have w6 : decide ((57 : Int) < ((s[k]'hlt).toNat : Int)) = true := by rw [hb]; simp; omega
        have w7 : (((s[k]'hlt).toNat : Int) != 95) = true := by rw [hb]; simp; omega
        have L : Hid (wletter n = false) := by show wletter n = _; simp [wletter]; omega
        clear hb h
        go_wp2_with fail
        go_ret
        exact ⟨ret_b (N.out L.out).symm, X.out⟩
      · have w1 : decide (((s[k]'hlt).toNat : Int) < 97) = true := by rw [hb]; simp; omega
        have w2 : decide ((122 : Int) < ((s[k]'hlt).toNat : Int)) = false := by rw [hb]; simp; omega
        have w3 : decide (((s[k]'hlt).toNat : Int) < 65) = false := by rw [hb]; simp; omega
        have w4 : decide ((90 : Int) < ((s[k]'hlt).toNat : Int)) = true := by rw [hb]; simp; omega
        have w5 : decide (((s[k]'hlt).toNat : Int) < 48) = false := by rw [hb]; simp; omega
        have w6 : decide ((57 : Int) < ((s[k]'hlt).toNat : Int)) = true := by rw [hb]; simp; omega
        have w7 : (((s[k]'hlt).toNat : Int) != 95) = false := by rw [hb]; simp; omega
        have L : Hid (wletter n = true) := by show wletter n = _; simp [wletter]; omega
        clear hb h
        go_wp2_with fail
        go_roundw
        case rel => exact ⟨k + 1, by omega, by go_num, U.out L.out, X.out⟩
        case measure => simp [intOf]; omega
      · have w1 : decide (((s[k]'hlt).toNat : Int) < 97) = true := by rw [hb]; simp; omega
        have w2 : decide ((122 : Int) < ((s[k]'hlt).toNat : Int)) = false := by rw [hb]; simp; omega
        have w3 : decide (((s[k]'hlt).toNat : Int) < 65) = false := by rw [hb]; simp; omega
        have w4 : decide ((90 : Int) < ((s[k]'hlt).toNat : Int)) = true := by rw [hb]; simp; omega
        have w5 : decide (((s[k]'hlt).toNat : Int) < 48) = false := by rw [hb]; simp; omega
        have w6 : decide ((57 : Int) < ((s[k]'hlt).toNat : Int)) = true := by rw [hb]; simp; omega
        have w7 : (((s[k]'hlt).toNat : Int) != 95) = true := by rw [hb]; simp; omega
        have L : Hid (wletter n = false) := by show wletter n = _; simp [wletter]; omega
        clear hb h
        go_wp2_with fail
        go_ret
        exact ⟨ret_b (N.out L.out).symm, X.out⟩
      · have w1 : decide (((s[k]'hlt).toNat : Int) < 97) = false := by rw [hb]; simp; omega
        have w2 : decide ((122 : Int) < ((s[k]'hlt).toNat : Int)) = false := by rw [hb]; simp; omega
        have w3 : decide (((s[k]'hlt).toNat : Int) < 65) = false := by rw [hb]; simp; omega
        have w4 : decide ((90 : Int) < ((s[k]'hlt).toNat : Int)) = true := by rw [hb]; simp; omega
        have w5 : decide (((s[k]'hlt).toNat : Int) < 48) = false := by rw [hb]; simp; omega
        have w6 : decide ((57 : Int) < ((s[k]'hlt).toNat : Int)) = true := by rw [hb]; simp; omega
        have w7 : (((s[k]'hlt).toNat : Int) != 95) = true := by rw [hb]; simp; omega
        have L : Hid (wletter n = true) := by show wletter n = _; simp [wletter]; omega
        clear hb h
        go_wp2_with fail
        go_roundw
        case rel => exact ⟨k + 1, by omega, by go_num, U.out L.out, X.out⟩
        case measure => simp [intOf]; omega
      · have w1 : decide (((s[k]'hlt).toNat : Int) < 97) = false := by rw [hb]; simp; omega
        have w2 : decide ((122 : Int) < ((s[k]'hlt).toNat : Int)) = true := by rw [hb]; simp; omega
        have w3 : decide (((s[k]'hlt).toNat : Int) < 65) = false := by rw [hb]; simp; omega
        have w4 : decide ((90 : Int) < ((s[k]'hlt).toNat : Int)) = true := by rw [hb]; simp; omega
        have w5 : decide (((s[k]'hlt).toNat : Int) < 48) = false := by rw [hb]; simp; omega
        have w6 : decide ((57 : Int) < ((s[k]'hlt).toNat : Int)) = true := by rw [hb]; simp; omega
        have w7 : (((s[k]'hlt).toNat : Int) != 95) = true := by rw [hb]; simp; omega
        have L : Hid (wletter n = false) := by show wletter n = _; simp [wletter]; omega
        clear hb h
        go_wp2_with fail
        go_ret
        exact ⟨ret_b (N.out L.out).symm, X.out⟩
    · have HR : Hid (wordB s = true) := wordB_yes (by omega) (by omega) fun i hi => A.out i (by omega)
      go_wp2_with fail
      go_ret
      exact ⟨ret_b HR.out.symm, X.out⟩

/-- Texts lie behind an address, in a block of S. -/
def XS (w : World) (S : Nat → Prop) (p : List ByteArray) (a : Option Addr) : Prop := p.length = 0 ∨ ∃ b o, a = some ⟨b, o, none⟩ ∧ S b ∧ ∀ i, i < p.length → w.cell? ⟨b, o + i, none⟩ = some (.string (p.getD i ⟨#[]⟩))

theorem XS_ks {w w' : World} {S : Nat → Prop} {p : List ByteArray} {a : Option Addr} (h : XS w S p a) (hk : Ks S w w') : XS w' S p a := by
  rcases h with h | ⟨b, o, e, hb, hc⟩
  · exact Or.inl h
  · exact Or.inr ⟨b, o, e, hb, fun i hi => by rw [hk.cell hb (World.block_lt_of_cell? _ _ (hc i hi))]; exact hc i hi⟩
theorem XS_mono {w : World} {S S' : Nat → Prop} {p : List ByteArray} {a : Option Addr} (h : XS w S p a) (hl : ∀ b, b < w.heap.size → S b → S' b) : XS w S' p a := by
  rcases h with h | ⟨b, o, e, hb, hc⟩
  · exact Or.inl h
  · by_cases h0 : p.length = 0
    · exact Or.inl h0
    · exact Or.inr ⟨b, o, e, hl b (World.block_lt_of_cell? _ _ (hc 0 (by omega))) hb, hc⟩
/-- .. all from block lo on. -/
def XA (w : World) (lo : Nat) (p : List ByteArray) (a : Option Addr) : Prop := XS w (fun b => lo ≤ b) p a
theorem XA_kp {w w' : World} {lo : Nat} {p : List ByteArray} {a : Option Addr} (h : XA w lo p a) (hk : Kp lo w w') : XA w' lo p a := XS_ks h hk.block
theorem XA_lo {w : World} {lo lo' : Nat} {p : List ByteArray} {a : Option Addr} (h : XA w lo p a) (hl : lo' ≤ lo) : XA w lo' p a := XS_mono h fun _ _ hb => Nat.le_trans hl hb
theorem XA_below {w w' : World} {lo : Nat} {p : List ByteArray} {a : Option Addr} (h : XA w lo p a) (hb : Ex w w') : XA w' lo p a := XA_kp h (Kp.of_below hb lo)
theorem XA_at {w : World} {lo : Nat} {p : List ByteArray} {a : Option Addr} (h : XA w lo p a) (h0 : 0 < p.length) : ∃ b o, a = some ⟨b, o, none⟩ ∧ b < w.heap.size ∧ lo ≤ b ∧ ∀ i, i < p.length → w.cell? ⟨b, o + i, none⟩ = some (.string (p.getD i ⟨#[]⟩)) := by
  rcases h with h | ⟨b, o, e, hb, hc⟩
  · omega
  · exact ⟨b, o, e, World.block_lt_of_cell? _ _ (hc 0 h0), hb, hc⟩

/-- The text is among the texts. -/
def hasB (p : List ByteArray) (s : ByteArray) : Bool := p.any fun t => t.toList == s.toList
theorem hasB_yes {p : List ByteArray} {s : ByteArray} {i : Nat} (h : i < p.length) (e : ((p.getD i ⟨#[]⟩).toList == s.toList) = true) : hasB p s = true := by
  simp only [hasB, List.any_eq_true]
  exact ⟨p.getD i ⟨#[]⟩, by simp [List.getD, h], e⟩
theorem hasB_no {p : List ByteArray} {s : ByteArray} (h : ∀ i, i < p.length → ((p.getD i ⟨#[]⟩).toList == s.toList) = false) : hasB p s = false := by
  simp only [hasB, List.any_eq_false]
  intro t ht
  obtain ⟨i, hi, rfl⟩ := List.getElem_of_mem ht
  have := h i hi
  simp only [List.getD, List.getElem?_eq_getElem hi, Option.getD_some] at this
  simp [this]

set_option maxHeartbeats 1000000 in
theorem l12Has_any (p : List ByteArray) (a : Option Addr) (c : Nat) (s : ByteArray) (w : World) (hl : p.length ≤ 1000000000) (hP : XA w 0 p a) :
    Calls Tryz.prog 48 #[.slice a p.length c, .string s] w fun e w' => e = .returned (.bool (hasB p s)) ∧ Ex w w' := by
  have P : Hid (∀ w', Ex w w' → XA w' 0 p a) := fun _ h => XA_below hP h
  clear hP
  go_enter Tryz.func48, Tryz.ntmps48
  go_wp2_with fail
  go_loopw [5] (fun i wr => ∃ (k : Nat), k ≤ p.length ∧ i = .int .i64 k ∧ (∀ j, j < k → ((p.getD j ⟨#[]⟩).toList == s.toList) = false) ∧ Ex w wr) (fun i _ => p.length - (intOf i).toNat)
  case atStart => exact ⟨0, by omega, rfl, fun j hj => by omega, Ex.refl _⟩
  case round =>
    obtain ⟨k, hk, rfl, hall, hx⟩ := hrel
    have A : Hid (∀ j, j < k → ((p.getD j ⟨#[]⟩).toList == s.toList) = false) := hall
    have X : Hid (Ex w wr) := hx
    clear hall hx
    by_cases hlt : k < p.length
    · obtain ⟨b, o, rfl, hbs, _, hc⟩ := XA_at (P.out wr X.out) (by omega)
      have ck := hc k hlt
      have Y : Hid (((p.getD k ⟨#[]⟩).toList == s.toList) = true → hasB p s = true) := hasB_yes hlt
      have U : Hid (((p.getD k ⟨#[]⟩).toList == s.toList) = false → ∀ j, j < k + 1 → ((p.getD j ⟨#[]⟩).toList == s.toList) = false) := fun h => upto_succ A.out h
      obtain ⟨t, ht⟩ : ∃ t, p.getD k ⟨#[]⟩ = t := ⟨_, rfl⟩
      rw [ht] at ck Y U
      clear hc ht
      cases he : t.toList == s.toList with
      | true =>
        have HR : Hid (hasB p s = true) := Y.out he
        go_wp2_with fail
        go_ret
        exact ⟨ret_b HR.out.symm, X.out⟩
      | false =>
        have HU : Hid _ := U.out he
        go_wp2_with fail
        go_roundw
        case rel => exact ⟨k + 1, by omega, by go_num, HU.out, X.out⟩
        case measure => simp [intOf]; omega
    · have HR : Hid (hasB p s = false) := hasB_no fun i hi => A.out i (by omega)
      go_wp2_with fail
      go_ret
      exact ⟨ret_b HR.out.symm, X.out⟩

end Go.Proofs.YtldbmlojgakieaaGreatDoor
