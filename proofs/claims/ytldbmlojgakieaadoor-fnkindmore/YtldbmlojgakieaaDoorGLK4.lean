/- Walks: names, their types, and a term, drawn. The law on kinds of terms and their parts, walked. The law on parts of terms, walked. One name more, of a type of its own: what a term is of stays. -/
import Derived.Test.YtldbmlojgakieaaDoorDT2
import Derived.Test.YtldbmlojgakieaaDoorGIS2
import Derived.Test.YtldbmlojgakieaaDoorGTO0
import Derived.Test.YtldbmlojgakieaaDoorGBD4
import Derived.Test.YtldbmlojgakieaaDoorGW7
namespace Go.Proofs.YtldbmlojgakieaaDoor

open Go.RowKit Go.Deep Go.Maps Go.WideMaps

attribute [local go_sem ↓] Go.wp_at_zero Go.wp_at_succ

set_option maxRecDepth 100000 in
/-- A type put behind such a list: an operation of an ordered list. -/
theorem wpList_append_typeF {w : World} {ops : Array Oper} {rest : List Oper} {o : Oper} {a : Act} {Q : Exit → Act → World → Prop} (hgd : o.guard = none) (s x : Operand)
    (ho : o.op = .call { callee := .builtin .append, args := #[s, x], argTypes := #[24, 24] })
    (B : Nat) (w0 : World) (hE : Fr B w0 w) (S : Nat → Prop) (base : Nat) (hb : w0.heap.size ≤ base) (hbw : base ≤ w.heap.size) (v : Value) (l : F) (hs : a.eval s = v) (hR : KR w base S v l)
    (b pc : Nat) (f : F) (ad : Option Addr) (c : Nat) (hx : a.eval x = .slice (some ⟨b, 0, none⟩) 1 pc) (hc0 : w.cell? ⟨b, 0, none⟩ = some (.slice ad (len f) c))
    (hV : SA w (fun b => (S b ∨ base ≤ b) ∧ v.ownBlock ≠ some b) f ad) (h63 : len l ≤ 100000000)
    (h : ∀ av cap w', KR w' base S (.slice av (len l + 1) cap) (snoc l 0 f) → Fr B w0 w' → Below base w w' → wpList Tryd.prog ops Q rest (a.put o.dst (.slice av (len l + 1) cap)) w') :
    wpList Tryd.prog ops Q (o :: rest) a w := by
  obtain ⟨cs, h1, h2⟩ := hR
  obtain ⟨i0, hi, hz0, hz1, hz2⟩ := info_parts Tryd.info32
  have hlen : cs.length = len l := by have := h1.1; omega
  refine wpList_append_lies w hgd s x 24 ho base 32 i0 _ 1 24 Tryd.underlying24 hi hz0 hz1 hz2 rfl (by omega) v (len l) cs hs h1 ⟨b, 0, none⟩ 1 pc [.slice ad (len f) c] hx rfl ?_ ?_ (by omega) (by unfold maxLen; omega) (by omega) hbw w.heap.size rfl ?_
  · intro j q hq
    match j, hq with
    | 0, hq => simp at hq; subst hq; rw [Go.WideShapes.add_plain]; exact hc0
  · simp [Value.oneCell']
  · intro g cap w' hown hgrow hat hlt
    have hr := fun k (hk : v.ownBlock = some k) => (h1.lt k hk).1
    have mv : ∀ (k : F) (a' : Option Addr), SA w (fun b => (S b ∨ base ≤ b) ∧ v.ownBlock ≠ some b) k a' → SA w' (fun b => (S b ∨ base ≤ b) ∧ (Value.slice (some ⟨g, 0, none⟩) (len l + 1) cap).ownBlock ≠ some b) k a' := by
      intro k a' hk
      have q1 := SA_mono (S' := fun b => ((S b ∨ base ≤ b) ∧ v.ownBlock ≠ some b) ∧ b < w.heap.size) hk fun b hb hs => ⟨hs, hb⟩
      refine SA_mono (SA_ks q1 fun b hs hl => hgrow.block b hl (fun e => hs.1.2 e.symm)) fun b _ hs => ⟨hs.1.1, fun e => ?_⟩
      have e' : g = b := by simpa [Value.ownBlock] using e
      rcases hat with h | h
      · exact hs.1.2 (by rw [h, e'])
      · have := hs.2; omega
    refine h (some ⟨g, 0, none⟩) cap w' ⟨_, by rw [len_snoc]; exact hown, fun j hj => ?_⟩ ⟨hgrow.os.trans hE.os, hgrow.tape.trans hE.tape, hgrow.output.trans hE.output, Nat.le_trans hE.size hgrow.size, fun k hk hn => (hgrow.block k (Nat.lt_of_lt_of_le hk hE.size) (fun e => by have := hr k e.symm; omega)).trans (hE.block k hk hn)⟩ ⟨hgrow.os, hgrow.tape, hgrow.output, hgrow.size, fun n hn => hgrow.block n (by omega) (fun e => by have := hr n e.symm; omega)⟩
    rw [len_snoc] at hj
    rw [kid_snoc]
    by_cases e : j < len l
    · rw [if_pos e]
      obtain ⟨a', c', e2, hk⟩ := h2 j e
      exact ⟨a', c', by rw [List.getElem?_append_left (by omega)]; exact e2, mv _ _ hk⟩
    · have ej : j = len l := by omega
      rw [if_neg e, if_pos ej]
      exact ⟨ad, c, by rw [List.getElem?_append_right (by omega)]; simp [hlen, ej], mv _ _ hV⟩


theorem KR.fr {w w' : World} {B base : Nat} {S : Nat → Prop} {v : Value} {l : F} (h : KR w base S v l) (hx : Fr B w w') (hb : B < base) (hS : ¬ S B) : KR w' base S v l := by
  obtain ⟨cs, ⟨h0, h1⟩, h2⟩ := h
  refine ⟨cs, ⟨h0, ?_⟩, fun j hj => ?_⟩
  · rcases h1 with h1 | ⟨g, cap, cur, e, hg, hc, h3⟩
    · exact Or.inl h1
    · exact Or.inr ⟨g, cap, cur, e, hg, hx.blk (by omega) hc, h3⟩
  · obtain ⟨a', c', e2, hV⟩ := h2 j hj
    refine ⟨a', c', e2, SA_ks hV fun b hs hlt => hx.block b hlt fun e => ?_⟩
    rcases hs.1 with h | h
    · exact hS (e ▸ h)
    · omega

/-- All but the first. -/
def tailF : F → F
  | .nil => .nil
  | .node _ _ _ _ r => r
theorem len_tailF : ∀ l : F, 0 < len l → len (tailF l) + 1 = len l
  | .nil, h => by simp [len] at h
  | .node _ _ _ _ r, _ => rfl
theorem kid_tailF : ∀ (l : F) (j : Nat), 0 < len l → kid (tailF l) j = kid l (j + 1)
  | .nil, _, h => by simp [len] at h
  | .node _ _ _ _ r, _, _ => rfl
theorem SA_tail {w : World} {S : Nat → Prop} {l : F} {b o : Nat} (h : SA w S l (some ⟨b, o, none⟩)) (h0 : 0 < len l) : SA w S (tailF l) (some ⟨b, o + 1, none⟩) := by
  obtain ⟨b', o', e, hS, _, hk⟩ := SA_at h h0
  cases e
  refine SA_mk hS fun i hi => ?_
  have hl := len_tailF l h0
  obtain ⟨a', c', hc, hs⟩ := hk (i + 1) (by omega)
  rw [kid_tailF l i h0]
  exact ⟨a', c', by rw [show o + 1 + i = o + (i + 1) by omega]; exact hc, hs⟩

abbrev nmA : ByteArray := ⟨#[97]⟩
abbrev nmB : ByteArray := ⟨#[98]⟩
abbrev nmC : ByteArray := ⟨#[99]⟩
/-- Types that are small. -/
def Tl (l : F) : Prop := len l ≤ 3 ∧ ∀ i, i < len l → len (kid l i) ≤ 1000000000 ∧ Sm (kid l i)
theorem Tl.sm {l : F} (h : Tl l) : Sm l := Sm_of fun j hj => h.2 j hj

/-- Names, their types, and a term, drawn. -/
def DkP (w : World) (e : Ending) (w' : World) : Prop :=
  ∃ (ns : List ByteArray) (na : Option Addr) (tl : F) (ta : Option Addr) (tc : Nat) (k n : Int) (s : ByteArray) (x : List Int) (xa : Option Addr) (xc : Nat) (f : TM) (fa : Option Addr) (fc : Nat),
    e = .returned (.tuple #[.slice na ns.length 3, .slice ta (len tl) tc, .agg #[.int .i64 k, .int .i64 n, .string s, .slice xa x.length xc, .slice fa (tlen f) fc]]) ∧ (ns = [nmA, nmB, nmC] ∨ ns = [nmA, nmB, nmB]) ∧ XA w' w.heap.size ns na ∧ TA w' w.heap.size tl ta ∧ Tl tl ∧ len tl ≤ tc ∧ tc ≤ 9223372036854775807 ∧ PA w' w.heap.size x xa ∧ (x.length ≤ xc ∧ xc ≤ 9223372036854775807) ∧ MA w' w.heap.size f fa ∧ Ts s x f ∧ Ex w w'

theorem dk_end {w wY : World} {ns : List ByteArray} {na : Option Addr} {tl : F} {ta : Option Addr} {tc : Nat} {k n : Int} {s : ByteArray} {x : List Int} {xa : Option Addr} {xc : Nat} {f : TM} {fa : Option Addr} {fc : Nat}
    (hns : ns = [nmA, nmB, nmC] ∨ ns = [nmA, nmB, nmB]) (hX : XS wY (fun b => w.heap.size + 1 ≤ b) ns na) (hT : SA wY (fun b => w.heap.size + 1 ≤ b) tl ta) (hTl : Tl tl) (htc : len tl ≤ tc ∧ tc ≤ 9223372036854775807) (hP : PS wY (fun b => w.heap.size + 1 ≤ b) x xa) (hxc : x.length ≤ xc ∧ xc ≤ 9223372036854775807) (hM : MS wY (fun b => w.heap.size + 1 ≤ b) f fa) (hS : Ts s x f) (hx : Ex w wY) :
    DkP w (.returned (.tuple #[.slice na ns.length 3, .slice ta (len tl) tc, .agg #[.int .i64 k, .int .i64 n, .string s, .slice xa x.length xc, .slice fa (tlen f) fc]])) (setL wY w.heap.size 0 [.int .i64 k, .int .i64 n, .string s, .slice xa x.length xc, .slice fa (tlen f) fc]) := by
  have hk : Kp (w.heap.size + 1) wY (setL wY w.heap.size 0 [.int .i64 k, .int .i64 n, .string s, .slice xa x.length xc, .slice fa (tlen f) fc]) := setL_kp _ (Kp.refl _ _) (Or.inl (Nat.lt_succ_self _))
  exact ⟨ns, na, tl, ta, tc, k, n, s, x, xa, xc, f, fa, fc, rfl, hns, XA_lo (XA_kp hX hk) (Nat.le_succ _), TA_lo (TA_kp hT hk) (Nat.le_succ _), hTl, htc.1, htc.2, PA_lo (PA_kp (PS_pa.1 hP) hk) (Nat.le_succ _), hxc, MA_lo (MA_kp hM hk) (Nat.le_succ _), hS, setL_ex _ hx (Nat.le_refl _)⟩

/-- The end as the walk spells it. -/
theorem dk_endW {w wY : World} {ns : List ByteArray} {na : Option Addr} {tl : F} {ta : Option Addr} {m tc : Nat} {k n : Int} {s : ByteArray} {x : List Int} {xa : Option Addr} {xc : Nat} {f : TM} {fa : Option Addr} {fc : Nat} (hm : m = len tl)
    (hns : ns = [nmA, nmB, nmC] ∨ ns = [nmA, nmB, nmB]) (hX : XS wY (fun b => w.heap.size + 1 ≤ b) ns na) (hT : SA wY (fun b => w.heap.size + 1 ≤ b) tl ta) (hTl : Tl tl) (htc : m ≤ tc ∧ tc ≤ 9223372036854775807) (hP : PS wY (fun b => w.heap.size + 1 ≤ b) x xa) (hxc : x.length ≤ xc ∧ xc ≤ 9223372036854775807) (hM : MS wY (fun b => w.heap.size + 1 ≤ b) f fa) (hS : Ts s x f) (hx : Ex w wY) :
    DkP w (.returned (.tuple #[.slice na 3 3, .slice ta m tc, .agg #[.int .i64 k, .int .i64 n, .string s, .slice xa x.length xc, .slice fa (tlen f) fc]])) (((((wY.setCell ⟨w.heap.size, 0, none⟩ (.int .i64 k)).setCell ⟨w.heap.size, 1, none⟩ (.int .i64 n)).setCell ⟨w.heap.size, 2, none⟩ (.string s)).setCell ⟨w.heap.size, 3, none⟩ (.slice xa x.length xc)).setCell ⟨w.heap.size, 4, none⟩ (.slice fa (tlen f) fc)).drew
    ∧ DkP w (.returned (.tuple #[.slice na 3 3, .slice ta m tc, .agg #[.int .i64 k, .int .i64 n, .string s, .slice xa x.length xc, .slice fa (tlen f) fc]])) (((((wY.setCell ⟨w.heap.size, 0, none⟩ (.int .i64 k)).setCell ⟨w.heap.size, 1, none⟩ (.int .i64 n)).setCell ⟨w.heap.size, 2, none⟩ (.string s)).setCell ⟨w.heap.size, 3, none⟩ (.slice xa x.length xc)).setCell ⟨w.heap.size, 4, none⟩ (.slice fa (tlen f) fc)) := by
  subst hm
  have h := dk_end (k := k) (n := n) (fc := fc) hns hX hT hTl htc hP hxc hM hS hx
  have hl : ns.length = 3 := by rcases hns with rfl | rfl <;> rfl
  rw [hl] at h
  simp only [setL, Nat.zero_add, Nat.reduceAdd] at h
  refine ⟨?_, h⟩
  obtain ⟨ns', na', tl', ta', tc', k', n', s', x', xa', xc', f', fa', fc', h1, h2, h3, h4, h5, h6, h7, h8, h9, h10, h11, h12⟩ := h
  exact ⟨ns', na', tl', ta', tc', k', n', s', x', xa', xc', f', fa', fc', h1, h2, XA_kp h3 (Kp.refl _ _).drew, TA_kp h4 (Kp.refl _ _).drew, h5, h6, h7, PA_kp h8 (Kp.refl _ _).drew, h9, MA_kp h10 (Kp.refl _ _).drew, h11, h12.drew⟩

/-- The first replaced. -/
def headF (k : F) : F → F
  | .nil => .nil
  | .node a b c _ r => .node a b c k r
theorem len_headF (k : F) : ∀ l : F, len (headF k l) = len l
  | .nil => rfl
  | .node _ _ _ _ _ => rfl
theorem kid_headF0 (k : F) : ∀ l : F, 0 < len l → kid (headF k l) 0 = k
  | .nil, h => by simp [len] at h
  | .node _ _ _ _ _, _ => rfl
theorem kid_headF (k : F) : ∀ (l : F) (j : Nat), kid (headF k l) (j + 1) = kid l (j + 1)
  | .nil, _ => rfl
  | .node _ _ _ _ _, _ => rfl

set_option maxRecDepth 100000 in
set_option maxHeartbeats 4000000 in
theorem DrawKindTerm_any (n0 cc : Nat) (ca : Option Addr) (w : World) (hn : n0 ≤ cc) (hc : cc ≤ 9223372036854775807) (hB : By w n0 ca) :
    Calls Tryd.prog 4 #[.slice ca n0 cc] w (DkP w) := by
  have OP : Hid _ := l6Open_any n0 cc ca (w.alloc (.cells #[.int .i64 0, .int .i64 0, .string ⟨#[]⟩, .slice none 0 0, .slice none 0 0] 28)) hn hc (hB.ex (Ex.new _ _))
  clear hB
  go_enter Tryd.func4, Tryd.ntmps4
  go_wp2_with fail
  refine Calls.mono OP.out ?_
  rintro e w1 ⟨rfl, hR1, hb1⟩
  obtain ⟨rb, hrb⟩ : ∃ rb, rb = (w.alloc (.cells #[.int .i64 0, .int .i64 0, .string ⟨#[]⟩, .slice none 0 0, .slice none 0 0] 28)).heap.size := ⟨_, rfl⟩
  have hrb1 : rb = w.heap.size + 1 := hrb.trans (World.size_alloc _ _)
  rw [← hrb] at hR1 ⊢
  clear hrb
  subst hrb1
  have R1 : Hid (Rd w1 (w.heap.size + 1) 0) := hR1
  have X1 : Hid (Ex w w1) := (Ex.new _ _).trans hb1
  have Z1 : Hid (w1.heap[w.heap.size]? = some (.cells #[.int .i64 0, .int .i64 0, .string ⟨#[]⟩, .slice none 0 0, .slice none 0 0] 28 (0, 0))) := hb1.blk (heap_alloc_new _ _)
  have zrb : (w.heap.size + 1) < w1.heap.size := hR1.blk
  obtain ⟨nb, hnb⟩ : ∃ nb, nb = w1.heap.size := ⟨_, rfl⟩
  obtain ⟨W2, hW2⟩ : ∃ W2, W2 = w1.alloc (.cells #[.string ⟨#[97]⟩, .string ⟨#[98]⟩, .string ⟨#[99]⟩] 9) := ⟨_, rfl⟩
  have sW2 : W2.heap.size = nb + 1 := by rw [hW2, World.size_alloc, hnb]
  have HW2 : Hid (w1.alloc (.cells #[.string ⟨#[97]⟩, .string ⟨#[98]⟩, .string ⟨#[99]⟩] 9) = W2) := hW2.symm
  have X2 : Hid (Ex w1 W2) := hW2 ▸ Ex.new _ _
  have NB2 : Hid (W2.heap[nb]? = some (.cells #[.string nmA, .string nmB, .string nmC] 9 (0, 0))) := by show _ = _; rw [hW2, hnb]; exact heap_alloc_new _ _
  have zn1 : w1.heap.size ≤ nb := by omega
  have zn2 : nb ≤ w1.heap.size := by omega
  have HNB : Hid (nb = w1.heap.size) := hnb
  clear OP hR1 hb1 hW2 hnb
  go_wp2_with fail
  rw [HW2.out, ← HNB.out]
  have sz3 : (W2.alloc (.cells #[] 32)).heap.size = nb + 2 := by rw [World.size_alloc]; omega
  have KR0 : Hid (KR (W2.alloc (.cells #[] 32)) (nb + 1) (fun _ => False) (.slice (some ⟨nb + 1, 0, none⟩) 0 0) .nil) := by
    have h := KR.empty W2 (fun _ => False)
    rw [sW2] at h
    exact h
  have R3 : Hid (Rd (W2.alloc (.cells #[] 32)) (w.heap.size + 1) 0) := (R1.out.ex X2.out).ex (Ex.new _ _)
  have F3 : Hid (Fr (w.heap.size + 1) w1 (W2.alloc (.cells #[] 32))) := Fr.of_ex (X2.out.trans (Ex.new _ _)) _
  go_loopw [7, 8] (fun tv i wr => ∃ (j : Nat) (l : F) (q : Nat), j ≤ 3 ∧ i = .int .i64 j ∧ len l = j ∧ (∀ m, m < j → fits 3 (kid l m) = true) ∧ KR wr (nb + 1) (fun _ => False) tv l ∧ q ≤ j * 100 ∧ Rd wr (w.heap.size + 1) q ∧ Fr (w.heap.size + 1) w1 wr ∧ nb + 2 ≤ wr.heap.size ∧ wr.heap[nb]? = some (.cells #[.string nmA, .string nmB, .string nmC] 9 (0, 0))) (fun _ i _ => 3 - (intOf i).toNat)
  case atStart => exact ⟨0, .nil, 0, by omega, rfl, rfl, fun m hm => by omega, KR0.out, by omega, R3.out, F3.out, by omega, (Ex.new _ _).blk NB2.out⟩
  case round =>
    obtain ⟨j, l, q, hj, rfl, hlen, hfit, hkr, hq, hR, hF, hsz, hnbr⟩ := hrel
    have NBR : Hid (wr.heap[nb]? = some (.cells #[.string nmA, .string nmB, .string nmC] 9 (0, 0))) := hnbr
    have LJ : Hid (len l = j) := hlen
    have FJ : Hid (∀ m, m < j → fits 3 (kid l m) = true) := hfit
    have RR : Hid (Rd wr (w.heap.size + 1) q) := hR
    have FF : Hid (Fr (w.heap.size + 1) w1 wr) := hF
    obtain ⟨av, ac, rfl, _⟩ := hkr.vs
    have KK : Hid (KR wr (nb + 1) (fun _ => False) (.slice av (len l) ac) l) := hkr
    clear hlen hfit hkr hR hF hnbr
    by_cases hlt : j < 3
    · have d3 : decide ((j : Int) < 3) = true := decide_eq_true (by omega)
      have d3n : (j : Int) < 3 := by omega
      have d3m : decide (j < 3) = true := decide_eq_true hlt
      have tk2 : tk 2 = 3 := rfl
      go_wp2_with fail
      refine (l71Type_any 2 3 (w.heap.size + 1) q wr rfl (by omega) (by omega) RR.out).mono ?_
      rintro e w4 ⟨f4, a4, q4, rfl, hT4, _, hf4, hq4, hq4', hR4, hF4⟩
      have T4 : Hid (TA w4 wr.heap.size f4 a4) := hT4
      have N4 : Hid (fits 3 f4 = true) := hf4
      have R4 : Hid (Rd w4 (w.heap.size + 1) q4) := hR4
      have F4 : Hid (Fr (w.heap.size + 1) w1 w4) := FF.out.trans hF4
      have K4 : Hid (KR w4 (nb + 1) (fun _ => False) (.slice av (len l) ac) l) := KR.fr KK.out hF4 (by omega) (fun h => h)
      have s4 : wr.heap.size ≤ w4.heap.size := hF4.size
      have NB4 : Hid (w4.heap[nb]? = some (.cells #[.string nmA, .string nmB, .string nmC] 9 (0, 0))) := hF4.blk (by omega) NBR.out
      have K4a : Hid (KR (w4.alloc (.cells #[.slice a4 (len f4) (len f4)] 32)) (nb + 1) (fun _ => False) (.slice av (len l) ac) l) := K4.out.ex (Ex.new _ _)
      have V4 : Hid (SA (w4.alloc (.cells #[.slice a4 (len f4) (len f4)] 32)) (fun b => (False ∨ nb + 1 ≤ b) ∧ (Value.slice av (len l) ac).ownBlock ≠ some b) f4 a4) := SA_mono (SA_ex hT4 (Ex.new _ _)) fun b _ hb => ⟨Or.inr (by omega), fun e => by have := (KR.own KK.out b e).2; omega⟩
      have C4 : Hid ((w4.alloc (.cells #[.slice a4 (len f4) (len f4)] 32)).cell? ⟨w4.heap.size, 0, none⟩ = some (.slice a4 (len f4) (len f4))) := by show _ = _; simp
      have F4a : Hid (Fr (w.heap.size + 1) w1 (w4.alloc (.cells #[.slice a4 (len f4) (len f4)] 32))) := F4.out.alloc _
      have z4 : w1.heap.size ≤ nb + 1 := by omega
      have z4' : nb + 1 ≤ (w4.alloc (.cells #[.slice a4 (len f4) (len f4)] 32)).heap.size := by rw [World.size_alloc]; omega
      have hll : len l ≤ 100000000 := by have := LJ.out; omega
      clear hT4 hf4 hR4 hF4
      go_wp2_with (at_builtin; refine wpList_append_typeF rfl _ _ rfl (w.heap.size + 1) w1 F4a.out (fun _ => False) (nb + 1) z4 z4' (.slice av (len l) ac) l rfl K4a.out w4.heap.size 1 f4 a4 (len f4) rfl C4.out V4.out hll ?_)
      intro av5 ac5 w5 hk5 hF5 hb5
      have K5 : Hid (KR w5 (nb + 1) (fun _ => False) (.slice av5 (len l + 1) ac5) (snoc l 0 f4)) := hk5
      have F5 : Hid (Fr (w.heap.size + 1) w1 w5) := hF5
      have R5 : Hid (Rd w5 (w.heap.size + 1) q4) := (R4.out.ex (Ex.new _ _)).below hb5 (by omega)
      have FN : Hid (∀ m, m < j + 1 → fits 3 (kid (snoc l 0 f4) m) = true) := fun m hm => by
        rw [kid_snoc]
        by_cases h : m < len l
        · rw [if_pos h]; exact FJ.out m (by have := LJ.out; omega)
        · rw [if_neg h, if_pos (by have := LJ.out; omega)]; exact N4.out
      have NB5 : Hid (w5.heap[nb]? = some (.cells #[.string nmA, .string nmB, .string nmC] 9 (0, 0))) := (hb5.block nb (by omega)).trans ((Ex.new _ _).blk NB4.out)
      have S5 : Hid (nb + 2 ≤ w5.heap.size) := by have := hb5.size; rw [World.size_alloc] at this; show _ ≤ _; omega
      clear hk5 hF5 hb5
      go_wp2_with fail
      go_roundw
      case rel => exact ⟨j + 1, _, q4, by omega, by go_num, by rw [len_snoc, LJ.out], FN.out, K5.out, by omega, R5.out, F5.out, S5.out, NB5.out⟩
      case measure => simp [intOf]; omega
    · have hj3 : j = 3 := by omega
      subst hj3
      have d3 : decide (((3 : Nat) : Int) < 3) = false := by decide
      go_wp2_with fail
      refine (pick_any (w.heap.size + 1) q 3 wr (by omega) (by omega) (by omega) RR.out).mono ?_
      rintro e w4 ⟨x3, rfl, h30, h33, hR4, hF4⟩
      have R4 : Hid (Rd w4 (w.heap.size + 1) (q + 1)) := hR4
      have KK4 : Hid (KR w4 (nb + 1) (fun _ => False) (.slice av (len l) ac) l) := KR.fr KK.out hF4 (by omega) (fun h => h)
      have F4 : Hid (Fr (w.heap.size + 1) w1 w4) := FF.out.trans hF4
      have NB4 : Hid (w4.heap[nb]? = some (.cells #[.string nmA, .string nmB, .string nmC] 9 (0, 0))) := hF4.blk (by omega) NBR.out
      have s4 : nb + 2 ≤ w4.heap.size := by have := hF4.size; omega
      have htq : tq x3.toNat ≤ 36 := by
        have : x3 = 0 ∨ x3 = 1 ∨ x3 = 2 := by omega
        rcases this with rfl | rfl | rfl <;> decide
      have LT : Hid (Calls Tryd.prog 10 #[.pointer (some ⟨w.heap.size + 1, 0, none⟩), .int .i64 (1 + x3)] w4 (TmP (x3.toNat + 1) (w.heap.size + 1) (q + 1) (tq x3.toNat) w4)) := l71Term_any x3.toNat (1 + x3) (w.heap.size + 1) (q + 1) w4 (by omega) (by omega) (by omega) hR4
      have hd5 : x3.toNat + 1 ≤ 3 := by omega
      clear hR4 hF4 RR FF KK NBR
      go_wp2_with fail
      refine Calls.mono LT.out ?_
      rintro e w5 ⟨k, n, s, x, xa, xc, f, fa, fc, q5, rfl, hO, hM, hT, hq5, hq5', hR5, hF5⟩
      obtain ⟨bt, hbt⟩ : ∃ bt, bt = w5.heap.size := ⟨_, rfl⟩
      have zbt1 : w5.heap.size ≤ bt := by omega
      have zbt2 : bt ≤ w5.heap.size := by omega
      have s5 : w4.heap.size ≤ w5.heap.size := hF5.size
      have XC : Hid (x.length ≤ xc ∧ xc ≤ 9223372036854775807) := by
        obtain ⟨_, _, e, _, h1, h2, _⟩ := hO.PA
        injection e with _ _ e3
        subst e3
        exact ⟨h1, h2⟩
      have TS : Hid (Ts s x f) := ⟨hT.sm, hT.lm, hT.kids, by have := hT.path; omega, hT.name, by have := hT.deep; omega⟩
      have PX5 : PS w5 (fun b => (w.heap.size + 1 ≤ b ∧ b ≠ bt) ∧ w4.heap.size ≤ b) x xa := by
        obtain ⟨_, _, e, h0, _, _, _⟩ := hO.PA
        injection e with e1 _ _
        subst e1
        exact PS_mono (PS_pa.2 h0) fun b hb h => ⟨⟨by omega, by omega⟩, h⟩
      have MX5 : MS w5 (fun b => (w.heap.size + 1 ≤ b ∧ b ≠ bt) ∧ w4.heap.size ≤ b) f fa := MS_mono hM fun b hb h => ⟨⟨by omega, by omega⟩, h.1⟩
      have KK5 : KR w5 (nb + 1) (fun _ => False) (.slice av (len l) ac) l := KR.fr KK4.out hF5 (by omega) (fun h => h)
      obtain ⟨_, _, e5, TL5⟩ := KK5.vs
      injection e5 with e51 _ e53
      subst e51 e53
      have R5 : Hid (Rd w5 (w.heap.size + 1) q5) := hR5
      have F5 : Hid (Fr (w.heap.size + 1) w1 w5) := F4.out.trans hF5
      have NB5 : Hid (w5.heap[nb]? = some (.cells #[.string nmA, .string nmB, .string nmC] 9 (0, 0))) := hF5.blk (by omega) NB4.out
      have PX5' : Hid _ := PX5
      have MX5' : Hid _ := MX5
      have TL5' : Hid (SA w5 (fun b => False ∨ nb + 1 ≤ b) l av) := TL5
      have KK5' : Hid (KR w5 (nb + 1) (fun _ => False) (.slice av (len l) ac) l) := KK5
      have HBT : Hid (bt = w5.heap.size) := hbt
      have HG4 : Hid (∀ b, (Value.slice av (len l) ac).ownBlock = some b → b < w4.heap.size) := fun b e => (KR.own KK4.out b e).2
      clear hO hM hT hR5 hF5 LT PX5 MX5 TL5 KK5 hbt KK4 NB4 R4 F4
      go_wp2_with fail
      refine (pick_any (w.heap.size + 1) q5 16 _ (by omega) (by omega) (by omega) (R5.out.ex (Ex.new _ _))).mono ?_
      rintro e w6 ⟨y, rfl, hy0, hy16, hR6, hF6⟩
      rw [← HBT.out]
      have BX : Hid (w6.heap[bt]? = some (.cells #[.int .i64 k, .int .i64 n, .string s, .slice xa x.length xc, .slice fa (tlen f) fc] 28 (0, 0))) := hF6.blk (by omega) (heap_alloc_at _ _ HBT.out)
      have R6 : Hid (Rd w6 (w.heap.size + 1) (q5 + 1)) := hR6
      have G6 : Hid (Fr (w.heap.size + 1) w5 w6) := (Fr.of_ex (Ex.new _ _) _).trans hF6
      have F6 : Hid (Fr (w.heap.size + 1) w1 w6) := F5.out.trans G6.out
      have ZX : Hid (w6.heap[w.heap.size]? = some (.cells #[.int .i64 0, .int .i64 0, .string ⟨#[]⟩, .slice none 0 0, .slice none 0 0] 28 (0, 0))) := F6.out.blk (by omega) Z1.out
      have NBX : Hid (w6.heap[nb]? = some (.cells #[.string nmA, .string nmB, .string nmC] 9 (0, 0))) := G6.out.blk (by omega) NB5.out
      have PX : Hid (PS w6 (fun b => (w.heap.size + 1 ≤ b ∧ b ≠ bt) ∧ w4.heap.size ≤ b) x xa) := PS_ks PX5'.out fun b hb hl => G6.out.block b hl (by omega)
      have MX : Hid (MS w6 (fun b => (w.heap.size + 1 ≤ b ∧ b ≠ bt) ∧ w4.heap.size ≤ b) f fa) := MS_ks MX5'.out fun b hb hl => G6.out.block b hl (by omega)
      have TX : Hid (SA w6 (fun b => w.heap.size + 1 ≤ b ∧ b ≠ bt) l av) := SA_mono (SA_ks (SA_mono (S' := fun b => nb + 1 ≤ b ∧ b < bt) TL5'.out fun b hb h => ⟨by rcases h with h | h; exact h.elim; exact h, by omega⟩) fun b hb hl => G6.out.block b hl (by omega)) fun b _ h => ⟨by omega, by omega⟩
      have KX : Hid (KR w6 (nb + 1) (fun _ => False) (.slice av (len l) ac) l) := KR.fr KK5'.out G6.out (by omega) (fun h => h)
      have TLL : Hid (Tl l) := ⟨by have := LJ.out; omega, fun i hi => by have h3 := FJ.out i (by have := LJ.out; omega); exact ⟨by have := (fits_sm _ _ h3).1; omega, (fits_sm _ _ h3).2⟩⟩
      have EX6 : Hid (Ex w w6) := F6.out.to_ex X1.out (by omega)
      have NXS : Hid (XS w6 (fun b => w.heap.size + 1 ≤ b ∧ b ≠ bt) [nmA, nmB, nmC] (some ⟨nb, 0, none⟩)) := Or.inr ⟨nb, 0, rfl, ⟨by omega, by omega⟩, fun i hi => by
        have h3 : i = 0 ∨ i = 1 ∨ i = 2 := by have : i < 3 := hi; omega
        rcases h3 with rfl | rfl | rfl
        · exact blk_cell NBX.out 0
        · exact blk_cell NBX.out 1
        · exact blk_cell NBX.out 2⟩
      have L3 : Hid (len l = 3) := LJ.out
      obtain ⟨gr, hav, hgr1, hgr2, hcap1, hcap2⟩ : ∃ gr, av = some ⟨gr, 0, none⟩ ∧ nb + 1 ≤ gr ∧ (∃ cur, w6.heap[gr]? = some (.cells cur 32 (0, 0))) ∧ 3 ≤ ac ∧ ac ≤ 9223372036854775807 := by
        obtain ⟨_, ⟨_, ⟨_, h0⟩ | ⟨g, cap, cur, e, hb, hg, hn, hm, _⟩⟩, _⟩ := KX.out
        · have := L3.out; omega
        · injection e with e1 e2 e3
          exact ⟨g, e1, hb, ⟨cur, hg⟩, by have := L3.out; omega, by unfold maxLen at hm; omega⟩
      have HGR : Hid _ := hgr2
      subst hav
      have HK : Hid (∀ j, j < len l → ∃ a' c', w6.cell? ⟨gr, j, none⟩ = some (.slice a' (len (kid l j)) c') ∧ SA w6 (fun b => (nb + 1 ≤ b ∧ b ≠ bt) ∧ b ≠ gr) (kid l j) a') := fun j hj => by
        obtain ⟨cs, h1, h2⟩ := KK5'.out
        obtain ⟨a', c', e2, hk⟩ := h2 j hj
        have k1 := h1.cells (rfl : (Value.slice (some ⟨gr, 0, none⟩) (len l) ac).ownBlock = some gr) _ _ e2
        rw [Go.WideShapes.add_plain, Nat.zero_add] at k1
        refine ⟨a', c', G6.out.at (by show gr ≠ w.heap.size + 1; omega) k1, ?_⟩
        exact SA_ks (SA_mono (S' := fun b => (nb + 1 ≤ b ∧ b ≠ bt) ∧ b ≠ gr) hk fun b hb h => ⟨⟨by rcases h.1 with h | h; exact h.elim; exact h, by omega⟩, fun e => h.2 (by show some gr = some b; rw [e])⟩) fun b hs hl => G6.out.block b hl (by omega)
      have TXN : Hid (SA w6 (fun b => nb + 1 ≤ b ∧ b ≠ bt) l (some ⟨gr, 0, none⟩)) := SA_mono (SA_ks (SA_mono (S' := fun b => nb + 1 ≤ b ∧ b < bt) TL5'.out fun b hb h => ⟨by rcases h with h | h; exact h.elim; exact h, by omega⟩) fun b hb hl => G6.out.block b hl (by omega)) fun b _ h => ⟨h.1, by omega⟩
      have zg4 : gr < w4.heap.size := HG4.out gr rfl
      have hgr1' : w.heap.size + 1 < gr := by omega
      have ngb : gr ≠ bt := fun e => by obtain ⟨cur, h⟩ := HGR.out; have hb := BX.out; rw [← e, h] at hb; injection hb with h1; injection h1 with _ h2; exact absurd h2 (by decide)
      have zbt : bt < w6.heap.size := lt_of_block BX.out
      have zw6 : w.heap.size < w6.heap.size := by omega
      have zgr : gr < w6.heap.size := by obtain ⟨cur, h⟩ := HGR.out; exact lt_of_block h
      clear hR6 hF6 hgr2 PX5' MX5' TL5' KK5' NB5 F5 G6 R5 HBT
      by_cases hy0 : y = 0
      · have e0 : (y == 0) = true := by rw [beq_iff_eq]; exact hy0
        have s6z : w6.heap.size ≤ w6.heap.size := Nat.le_refl _
        have c0 := blk_cell BX.out 0
        have c1 := blk_cell BX.out 1
        have c2 := blk_cell BX.out 2
        have c3 := blk_cell BX.out 3
        have c4 := blk_cell BX.out 4
        have g0 := blk_free BX.out 0
        have g1 := blk_free BX.out 1
        have g2 := blk_free BX.out 2
        have g3 := blk_free BX.out 3
        have g4 := blk_free BX.out 4
        have r0 := blk_cell ZX.out 0
        have r1 := blk_cell ZX.out 1
        have r2 := blk_cell ZX.out 2
        have r3 := blk_cell ZX.out 3
        have r4 := blk_cell ZX.out 4
        have o0 := blk_free ZX.out 0
        have o1 := blk_free ZX.out 1
        have o2 := blk_free ZX.out 2
        have o3 := blk_free ZX.out 3
        have o4 := blk_free ZX.out 4
        have q5 : (setL w6 w.heap.size 0 [.int .i64 k, .int .i64 n, .string s, .slice xa x.length xc, .slice fa (tlen f) fc]).heap[w.heap.size]? = some (.cells #[.int .i64 k, .int .i64 n, .string s, .slice xa x.length xc, .slice fa (tlen f) fc] 28 (0, 0)) := five_set ZX.out rfl _ _ _ _ _
        have q6 : (((setL w6 w.heap.size 0 [.int .i64 k, .int .i64 n, .string s, .slice xa x.length xc, .slice fa (tlen f) fc]).alloc (.cells #[.string ⟨#[97]⟩, .string ⟨#[98]⟩, .string ⟨#[98]⟩] 9)).drew).heap[w.heap.size]? = some (.cells #[.int .i64 k, .int .i64 n, .string s, .slice xa x.length xc, .slice fa (tlen f) fc] 28 (0, 0)) := (Ex.refl _).drew.blk ((Ex.new _ _).blk q5)
        have ssz : (setL w6 w.heap.size 0 [.int .i64 k, .int .i64 n, .string s, .slice xa x.length xc, .slice fa (tlen f) fc]).heap.size = w6.heap.size := setL_size _ _ _ _
        have hk : Hid (Kp (w.heap.size + 1) w6 (((setL w6 w.heap.size 0 [.int .i64 k, .int .i64 n, .string s, .slice xa x.length xc, .slice fa (tlen f) fc]).alloc (.cells #[.string ⟨#[97]⟩, .string ⟨#[98]⟩, .string ⟨#[98]⟩] 9)).drew)) := ((setL_kp _ (Kp.refl _ _) (Or.inl (Nat.lt_succ_self _))).alloc _).drew
        have hx : Hid (Ex w (((setL w6 w.heap.size 0 [.int .i64 k, .int .i64 n, .string s, .slice xa x.length xc, .slice fa (tlen f) fc]).alloc (.cells #[.string ⟨#[97]⟩, .string ⟨#[98]⟩, .string ⟨#[98]⟩] 9)).drew)) := ((setL_ex _ EX6.out (Nat.le_refl _)).alloc _).drew
        have NX2 : Hid (XA (((setL w6 w.heap.size 0 [.int .i64 k, .int .i64 n, .string s, .slice xa x.length xc, .slice fa (tlen f) fc]).alloc (.cells #[.string ⟨#[97]⟩, .string ⟨#[98]⟩, .string ⟨#[98]⟩] 9)).drew) w.heap.size [nmA, nmB, nmB] (some ⟨w6.heap.size, 0, none⟩)) := by
          have hb : (((setL w6 w.heap.size 0 [.int .i64 k, .int .i64 n, .string s, .slice xa x.length xc, .slice fa (tlen f) fc]).alloc (.cells #[.string ⟨#[97]⟩, .string ⟨#[98]⟩, .string ⟨#[98]⟩] 9)).drew).heap[w6.heap.size]? = some (.cells #[.string ⟨#[97]⟩, .string ⟨#[98]⟩, .string ⟨#[98]⟩] 9 (0, 0)) := heap_alloc_at _ _ ssz.symm
          refine Or.inr ⟨w6.heap.size, 0, rfl, by show w.heap.size ≤ w6.heap.size; omega, fun i hi => ?_⟩
          have h3 : i = 0 ∨ i = 1 ∨ i = 2 := by have : i < 3 := hi; omega
          rcases h3 with rfl | rfl | rfl
          · exact blk_cell hb 0
          · exact blk_cell hb 1
          · exact blk_cell hb 2
        have TF : Hid (TA (((setL w6 w.heap.size 0 [.int .i64 k, .int .i64 n, .string s, .slice xa x.length xc, .slice fa (tlen f) fc]).alloc (.cells #[.string ⟨#[97]⟩, .string ⟨#[98]⟩, .string ⟨#[98]⟩] 9)).drew) w.heap.size l (some ⟨gr, 0, none⟩)) := TA_lo (TA_kp (SA_mono TX.out fun _ _ h => h.1) hk.out) (Nat.le_succ _)
        have PF : Hid (PA (((setL w6 w.heap.size 0 [.int .i64 k, .int .i64 n, .string s, .slice xa x.length xc, .slice fa (tlen f) fc]).alloc (.cells #[.string ⟨#[97]⟩, .string ⟨#[98]⟩, .string ⟨#[98]⟩] 9)).drew) w.heap.size x xa) := PA_lo (PA_kp (PS_pa.1 (PS_mono PX.out fun _ _ h => h.1.1)) hk.out) (Nat.le_succ _)
        have MF : Hid (MA (((setL w6 w.heap.size 0 [.int .i64 k, .int .i64 n, .string s, .slice xa x.length xc, .slice fa (tlen f) fc]).alloc (.cells #[.string ⟨#[97]⟩, .string ⟨#[98]⟩, .string ⟨#[98]⟩] 9)).drew) w.heap.size f fa) := MA_lo (MA_kp (MS_mono MX.out fun _ _ h => h.1.1) hk.out) (Nat.le_succ _)
        have hc0 := blk_cell q6 0
        have hc1 := blk_cell q6 1
        have hc2 := blk_cell q6 2
        have hc3 := blk_cell q6 3
        have hc4 := blk_cell q6 4
        simp only [setL, Nat.zero_add, Nat.reduceAdd] at hc0 hc1 hc2 hc3 hc4
        have HC0 : Hid _ := hc0
        have HC1 : Hid _ := hc1
        have HC2 : Hid _ := hc2
        have HC3 : Hid _ := hc3
        have HC4 : Hid _ := hc4
        clear q5 q6 ssz hc0 hc1 hc2 hc3 hc4
        go_wp2_with fail
        go_region
        all_goals
          go_wp2_with fail
          have hc0 := HC0.out
          have hc1 := HC1.out
          have hc2 := HC2.out
          have hc3 := HC3.out
          have hc4 := HC4.out
          refine bodyPost_ret (v := .tuple #[.slice (some ⟨w6.heap.size, 0, none⟩) 3 3, .slice (some ⟨gr, 0, none⟩) (len l) ac, .agg #[.int .i64 k, .int .i64 n, .string s, .slice xa x.length xc, .slice fa (tlen f) fc]]) (by simp [results, Tryd.results4, go_sem, hc0, hc1, hc2, hc3, hc4]) rfl ?_
          exact ⟨[nmA, nmB, nmB], _, l, _, ac, k, n, s, x, xa, xc, f, fa, fc, rfl, Or.inr rfl, NX2.out, TF.out, TLL.out, by have := L3.out; omega, hcap2, PF.out, XC.out, MF.out, TS.out, hx.out⟩
      have e0 : (y == 0) = false := by rw [beq_eq_false_iff_ne]; exact hy0
      by_cases hy1 : y = 1
      · have e1 : (y == 1) = true := by rw [beq_iff_eq]; exact hy1
        have hl3 := L3.out
        have TT1 : Hid (SA w6 (fun b => w.heap.size + 1 ≤ b) (tailF l) (some ⟨gr, 1, none⟩)) := SA_mono (SA_tail TX.out (by omega)) fun _ _ h => h.1
        have hlt := len_tailF l (by omega)
        have LT2 : Hid (len (tailF l) = 2) := by show _ = _; omega
        have TT2 : Hid (Tl (tailF l)) := ⟨by have := LT2.out; omega, fun i hi => by rw [kid_tailF l i (by omega)]; exact TLL.out.2 (i + 1) (by have := LT2.out; omega)⟩
        clear hlt
        have c0 := blk_cell BX.out 0
        have c1 := blk_cell BX.out 1
        have c2 := blk_cell BX.out 2
        have c3 := blk_cell BX.out 3
        have c4 := blk_cell BX.out 4
        have g0 := blk_free BX.out 0
        have g1 := blk_free BX.out 1
        have g2 := blk_free BX.out 2
        have g3 := blk_free BX.out 3
        have g4 := blk_free BX.out 4
        have r0 := blk_cell ZX.out 0
        have r1 := blk_cell ZX.out 1
        have r2 := blk_cell ZX.out 2
        have r3 := blk_cell ZX.out 3
        have r4 := blk_cell ZX.out 4
        have o0 := blk_free ZX.out 0
        have o1 := blk_free ZX.out 1
        have o2 := blk_free ZX.out 2
        have o3 := blk_free ZX.out 3
        have o4 := blk_free ZX.out 4
        rw [hl3]
        go_wp2_with fail
        go_region
        all_goals
          go_wp2_with fail
          have q5 := five_set ZX.out rfl (.int .i64 k) (.int .i64 n) (.string s) (.slice xa x.length xc) (.slice fa (tlen f) fc)
          have hc0 := blk_cell q5 0
          have hc1 := blk_cell q5 1
          have hc2 := blk_cell q5 2
          have hc3 := blk_cell q5 3
          have hc4 := blk_cell q5 4
          simp only [setL, Nat.zero_add, Nat.reduceAdd] at hc0 hc1 hc2 hc3 hc4
          refine bodyPost_ret (v := .tuple #[.slice (some ⟨nb, 0, none⟩) 3 3, .slice (some ⟨gr, 1, none⟩) 2 (ac - 1), .agg #[.int .i64 k, .int .i64 n, .string s, .slice xa x.length xc, .slice fa (tlen f) fc]]) (by simp [results, Tryd.results4, go_sem, hc0, hc1, hc2, hc3, hc4]) rfl ?_
          have fe := dk_endW (w := w) (k := k) (n := n) (fc := fc) (tc := (ac - 1)) (m := 2) LT2.out.symm (ns := [nmA, nmB, nmC]) (Or.inl rfl) (XS_mono NXS.out fun _ _ h => h.1) TT1.out TT2.out ⟨by omega, by omega⟩ (PS_mono PX.out fun _ _ h => h.1.1) XC.out (MS_mono MX.out fun _ _ h => h.1.1) TS.out EX6.out
          first | with_reducible exact fe.1 | with_reducible exact fe.2 | exact fe.1
      have e1 : (y == 1) = false := by rw [beq_eq_false_iff_ne]; exact hy1
      by_cases hy2 : y = 2
      · have e2 : (y == 2) = true := by rw [beq_iff_eq]; exact hy2
        go_wp2_with fail
        refine (l71Deep_any (w.heap.size + 1) (q5 + 1) w6 (by omega) R6.out).mono ?_
        rintro e w7 ⟨f7, a7, c7, q7, rfl, hT7, hs7, _, _, _, _, hF7⟩
        obtain ⟨ax, cx, hcx, hkx⟩ := HK.out 0 (by have := L3.out; omega)
        have C7 : w7.cell? ⟨gr, 0, none⟩ = some (.slice ax (len (kid l 0)) cx) := hF7.at (by show gr ≠ w.heap.size + 1; omega) hcx
        have G7f : w7.frozen? ⟨gr, 0, none⟩ = false := by obtain ⟨cur, hcur⟩ := HGR.out; exact blk_free (hF7.blk (by omega) hcur) 0
        obtain ⟨w8, hw8⟩ : ∃ w8, w8 = w7.setCell ⟨gr, 0, none⟩ (.slice a7 (len f7) c7) := ⟨_, rfl⟩
        have B8 : ∀ b o, b ≠ w.heap.size + 1 → b ≠ gr → w6.heap[b]? = some o → w8.heap[b]? = some o := fun b o h1 h2 h => by rw [hw8]; exact blk_off (hF7.blk h1 h) h2 _
        have BX8 : Hid (w8.heap[bt]? = some (.cells #[.int .i64 k, .int .i64 n, .string s, .slice xa x.length xc, .slice fa (tlen f) fc] 28 (0, 0))) := B8 _ _ (by omega) (Ne.symm ngb) BX.out
        have ZX8 : Hid (w8.heap[w.heap.size]? = some (.cells #[.int .i64 0, .int .i64 0, .string ⟨#[]⟩, .slice none 0 0, .slice none 0 0] 28 (0, 0))) := B8 _ _ (by omega) (by omega) ZX.out
        have NB8 : Hid (w8.heap[nb]? = some (.cells #[.string nmA, .string nmB, .string nmC] 9 (0, 0))) := B8 _ _ (by omega) (by omega) NBX.out
        have S78 : w8.heap.size = w7.heap.size := by rw [hw8, World.size_setCell]
        have S67 : w6.heap.size ≤ w7.heap.size := hF7.size
        have K8 : ∀ b, b < w6.heap.size → b ≠ w.heap.size + 1 → b ≠ gr → w8.heap[b]? = w6.heap[b]? := fun b hl h1 h2 => by
          rw [hw8, Below.heap_setCell _ _ _ _ (by simpa using h2)]
          exact hF7.block b hl h1
        have T78 : SA w8 (fun b => w.heap.size + 1 ≤ b) f7 a7 := by
          have h := SA_ks (w' := w8) hT7 fun b hb hl => by rw [hw8]; exact Below.heap_setCell _ _ _ _ (by show b ≠ gr; omega)
          exact SA_mono h fun b _ hb => by omega
        have TT8 : Hid (SA w8 (fun b => w.heap.size + 1 ≤ b) (headF f7 l) (some ⟨gr, 0, none⟩)) := SA_mk (by omega) fun i hi => by
          rw [len_headF] at hi
          by_cases hi0 : i = 0
          · subst hi0
            rw [kid_headF0 _ _ hi]
            exact ⟨a7, c7, by rw [hw8]; exact World.cell?_setCell_same _ _ _ C7, T78⟩
          · obtain ⟨j, rfl⟩ : ∃ j, i = j + 1 := ⟨i - 1, by omega⟩
            rw [kid_headF]
            obtain ⟨a', c', hc', hk'⟩ := HK.out (j + 1) hi
            refine ⟨a', c', ?_, SA_mono (SA_ks hk' fun b hb hl => K8 b hl (by omega) hb.2) fun b _ hb => by omega⟩
            rw [hw8, World.cell?_setCell_other _ _ _ _ (by intro e; have e2 := congrArg Addr.off e; simp at e2), Nat.zero_add]
            exact hF7.at (by show gr ≠ w.heap.size + 1; omega) hc'
        have TL8 : Hid (Tl (headF f7 l)) := ⟨by rw [len_headF]; exact TLL.out.1, fun i hi => by
          rw [len_headF] at hi
          by_cases hi0 : i = 0
          · subst hi0; rw [kid_headF0 _ _ hi]; exact hs7
          · obtain ⟨j, rfl⟩ : ∃ j, i = j + 1 := ⟨i - 1, by omega⟩
            rw [kid_headF]; exact TLL.out.2 _ hi⟩
        have LH : Hid (len l = len (headF f7 l)) := (len_headF _ _).symm
        have PX8 : Hid (PS w8 (fun b => w.heap.size + 1 ≤ b) x xa) := PS_mono (PS_ks PX.out fun b hb hl => K8 b hl (by omega) (by omega)) fun _ _ h => h.1.1
        have MX8 : Hid (MS w8 (fun b => w.heap.size + 1 ≤ b) f fa) := MS_mono (MS_ks MX.out fun b hb hl => K8 b hl (by omega) (by omega)) fun _ _ h => h.1.1
        have EX8 : Hid (Ex w w8) := by show Ex _ _; rw [hw8]; exact ((F6.out.trans hF7).to_ex X1.out (by omega)).set (by show w.heap.size ≤ gr; omega) _
        have NX8 : Hid (XS w8 (fun b => w.heap.size + 1 ≤ b) [nmA, nmB, nmC] (some ⟨nb, 0, none⟩)) := Or.inr ⟨nb, 0, rfl, by omega, fun i hi => by
          have h3 : i = 0 ∨ i = 1 ∨ i = 2 := by have : i < 3 := hi; omega
          rcases h3 with rfl | rfl | rfl
          · exact blk_cell NB8.out 0
          · exact blk_cell NB8.out 1
          · exact blk_cell NB8.out 2⟩
        have HW8 : Hid (w7.setCell ⟨gr, 0, none⟩ (.slice a7 (len f7) c7) = w8) := hw8.symm
        have hlp : 0 < len l := by have := L3.out; omega
        have zz8 : w.heap.size < w8.heap.size := by omega
        have zb8 : bt < w8.heap.size := by omega
        clear B8 K8 hw8 T78 hT7 hs7 hF7 hcx hkx
        go_wp2_with fail
        rw [HW8.out]
        clear C7 G7f
        have c0 := blk_cell BX8.out 0
        have c1 := blk_cell BX8.out 1
        have c2 := blk_cell BX8.out 2
        have c3 := blk_cell BX8.out 3
        have c4 := blk_cell BX8.out 4
        have g0 := blk_free BX8.out 0
        have g1 := blk_free BX8.out 1
        have g2 := blk_free BX8.out 2
        have g3 := blk_free BX8.out 3
        have g4 := blk_free BX8.out 4
        have r0 := blk_cell ZX8.out 0
        have r1 := blk_cell ZX8.out 1
        have r2 := blk_cell ZX8.out 2
        have r3 := blk_cell ZX8.out 3
        have r4 := blk_cell ZX8.out 4
        have o0 := blk_free ZX8.out 0
        have o1 := blk_free ZX8.out 1
        have o2 := blk_free ZX8.out 2
        have o3 := blk_free ZX8.out 3
        have o4 := blk_free ZX8.out 4
        go_wp2_with fail
        go_region
        all_goals
          go_wp2_with fail
          have q5 := five_set ZX8.out rfl (.int .i64 k) (.int .i64 n) (.string s) (.slice xa x.length xc) (.slice fa (tlen f) fc)
          have hc0 := blk_cell q5 0
          have hc1 := blk_cell q5 1
          have hc2 := blk_cell q5 2
          have hc3 := blk_cell q5 3
          have hc4 := blk_cell q5 4
          simp only [setL, Nat.zero_add, Nat.reduceAdd] at hc0 hc1 hc2 hc3 hc4
          refine bodyPost_ret (v := .tuple #[.slice (some ⟨nb, 0, none⟩) 3 3, .slice (some ⟨gr, 0, none⟩) (len l) ac, .agg #[.int .i64 k, .int .i64 n, .string s, .slice xa x.length xc, .slice fa (tlen f) fc]]) (by simp [results, Tryd.results4, go_sem, hc0, hc1, hc2, hc3, hc4]) rfl ?_
          have fe := dk_endW (w := w) (k := k) (n := n) (fc := fc) (tc := ac) (m := (len l)) LH.out (ns := [nmA, nmB, nmC]) (Or.inl rfl) NX8.out TT8.out TL8.out ⟨by have := L3.out; omega, hcap2⟩ PX8.out XC.out MX8.out TS.out EX8.out
          first | with_reducible exact fe.1 | with_reducible exact fe.2 | exact fe.1
      have e2 : (y == 2) = false := by rw [beq_eq_false_iff_ne]; exact hy2
      by_cases hy3 : y = 3
      · have e3 : (y == 3) = true := by rw [beq_iff_eq]; exact hy3
        go_wp2_with fail
        refine (l71Odd_any (w.heap.size + 1) (q5 + 1) w6 (by omega) R6.out).mono ?_
        rintro e w7 ⟨k7, n7, s7, x7, xa7, xc7, f7, fa7, fc7, q7, rfl, hP7, hc7, hM7, hT7, _, _, _, hF7⟩
        have BX7 : w7.heap[bt]? = some (.cells #[.int .i64 k, .int .i64 n, .string s, .slice xa x.length xc, .slice fa (tlen f) fc] 28 (0, 0)) := hF7.blk (by omega) BX.out
        obtain ⟨w8, hw8⟩ : ∃ w8, w8 = setL w7 bt 0 [.int .i64 k7, .int .i64 n7, .string s7, .slice xa7 x7.length xc7, .slice fa7 (tlen f7) fc7] := ⟨_, rfl⟩
        have HW8 : Hid _ := hw8
        have S67 : w6.heap.size ≤ w7.heap.size := hF7.size
        have S78 : w8.heap.size = w7.heap.size := by rw [hw8]; exact setL_size _ _ _ _
        have KP8 : Ks (fun b => b ≠ bt) w7 w8 := by rw [hw8]; exact fun b hb hl => setL_other _ hb
        have K8 : ∀ b, b < w6.heap.size → b ≠ w.heap.size + 1 → b ≠ bt → w8.heap[b]? = w6.heap[b]? := fun b hl h1 h2 => (KP8 b h2 (by omega)).trans (hF7.block b hl h1)
        have BX8 : Hid (w8.heap[bt]? = some (.cells #[.int .i64 k7, .int .i64 n7, .string s7, .slice xa7 x7.length xc7, .slice fa7 (tlen f7) fc7] 28 (0, 0))) := by show _ = _; rw [hw8]; exact five_set BX7 rfl _ _ _ _ _
        have ZX8 : Hid (w8.heap[w.heap.size]? = some (.cells #[.int .i64 0, .int .i64 0, .string ⟨#[]⟩, .slice none 0 0, .slice none 0 0] 28 (0, 0))) := (K8 _ (by omega) (by omega) (by omega)).trans ZX.out
        have NB8 : Hid (w8.heap[nb]? = some (.cells #[.string nmA, .string nmB, .string nmC] 9 (0, 0))) := (K8 _ (by omega) (by omega) (by omega)).trans NBX.out
        have TT8 : Hid (SA w8 (fun b => w.heap.size + 1 ≤ b) l (some ⟨gr, 0, none⟩)) := SA_mono (SA_ks TXN.out fun b hb hl => K8 b hl (by omega) hb.2) fun b _ hb => by omega
        have PX8 : Hid (PS w8 (fun b => w.heap.size + 1 ≤ b) x7 xa7) := PS_mono (PS_ks (PS_pa.2 hP7) fun b hb hl => KP8 b (by omega) hl) fun b _ hb => by omega
        have MX8 : Hid (MS w8 (fun b => w.heap.size + 1 ≤ b) f7 fa7) := MS_mono (MS_ks hM7 fun b hb hl => KP8 b (by omega) hl) fun b _ hb => by omega
        have EX8 : Hid (Ex w w8) := by show Ex _ _; rw [hw8]; exact setL_ex _ ((F6.out.trans hF7).to_ex X1.out (by omega)) (by omega)
        have NX8 : Hid (XS w8 (fun b => w.heap.size + 1 ≤ b) [nmA, nmB, nmC] (some ⟨nb, 0, none⟩)) := Or.inr ⟨nb, 0, rfl, by omega, fun i hi => by
          have h3 : i = 0 ∨ i = 1 ∨ i = 2 := by have : i < 3 := hi; omega
          rcases h3 with rfl | rfl | rfl
          · exact blk_cell NB8.out 0
          · exact blk_cell NB8.out 1
          · exact blk_cell NB8.out 2⟩
        have XC7 : Hid (x7.length ≤ xc7 ∧ xc7 ≤ 9223372036854775807) := hc7
        have TS7 : Hid (Ts s7 x7 f7) := hT7
        have zz8 : w.heap.size < w8.heap.size := by omega
        have zb8 : bt < w8.heap.size := by omega
        have u0 := blk_cell BX7 0
        have u1 := blk_cell BX7 1
        have u2 := blk_cell BX7 2
        have u3 := blk_cell BX7 3
        have u4 := blk_cell BX7 4
        have v0 := blk_free BX7 0
        have v1 := blk_free BX7 1
        have v2 := blk_free BX7 2
        have v3 := blk_free BX7 3
        have v4 := blk_free BX7 4
        simp only [setL, Nat.zero_add, Nat.reduceAdd] at hw8
        have HW9 : Hid _ := hw8.symm
        clear KP8 K8 hw8 hP7 hc7 hM7 hT7 hF7 BX7
        go_wp2_with fail
        rw [HW9.out]
        clear u0 v0 u1 v1 u2 v2 u3 v3 u4 v4
        have c0 := blk_cell BX8.out 0
        have c1 := blk_cell BX8.out 1
        have c2 := blk_cell BX8.out 2
        have c3 := blk_cell BX8.out 3
        have c4 := blk_cell BX8.out 4
        have g0 := blk_free BX8.out 0
        have g1 := blk_free BX8.out 1
        have g2 := blk_free BX8.out 2
        have g3 := blk_free BX8.out 3
        have g4 := blk_free BX8.out 4
        have r0 := blk_cell ZX8.out 0
        have r1 := blk_cell ZX8.out 1
        have r2 := blk_cell ZX8.out 2
        have r3 := blk_cell ZX8.out 3
        have r4 := blk_cell ZX8.out 4
        have o0 := blk_free ZX8.out 0
        have o1 := blk_free ZX8.out 1
        have o2 := blk_free ZX8.out 2
        have o3 := blk_free ZX8.out 3
        have o4 := blk_free ZX8.out 4
        go_wp2_with fail
        go_region
        all_goals
          go_wp2_with fail
          have q5 := five_set ZX8.out rfl (.int .i64 k7) (.int .i64 n7) (.string s7) (.slice xa7 x7.length xc7) (.slice fa7 (tlen f7) fc7)
          have hc0 := blk_cell q5 0
          have hc1 := blk_cell q5 1
          have hc2 := blk_cell q5 2
          have hc3 := blk_cell q5 3
          have hc4 := blk_cell q5 4
          simp only [setL, Nat.zero_add, Nat.reduceAdd] at hc0 hc1 hc2 hc3 hc4
          refine bodyPost_ret (v := .tuple #[.slice (some ⟨nb, 0, none⟩) 3 3, .slice (some ⟨gr, 0, none⟩) (len l) ac, .agg #[.int .i64 k7, .int .i64 n7, .string s7, .slice xa7 x7.length xc7, .slice fa7 (tlen f7) fc7]]) (by simp [results, Tryd.results4, go_sem, hc0, hc1, hc2, hc3, hc4]) rfl ?_
          have fe := dk_endW (w := w) (k := k7) (n := n7) (fc := fc7) (tc := ac) (m := (len l)) rfl (ns := [nmA, nmB, nmC]) (Or.inl rfl) NX8.out TT8.out TLL.out ⟨by have := L3.out; omega, hcap2⟩ PX8.out XC7.out MX8.out TS7.out EX8.out
          first | with_reducible exact fe.1 | with_reducible exact fe.2 | exact fe.1
      have e3 : (y == 3) = false := by rw [beq_eq_false_iff_ne]; exact hy3
      have c0 := blk_cell BX.out 0
      have c1 := blk_cell BX.out 1
      have c2 := blk_cell BX.out 2
      have c3 := blk_cell BX.out 3
      have c4 := blk_cell BX.out 4
      have g0 := blk_free BX.out 0
      have g1 := blk_free BX.out 1
      have g2 := blk_free BX.out 2
      have g3 := blk_free BX.out 3
      have g4 := blk_free BX.out 4
      have r0 := blk_cell ZX.out 0
      have r1 := blk_cell ZX.out 1
      have r2 := blk_cell ZX.out 2
      have r3 := blk_cell ZX.out 3
      have r4 := blk_cell ZX.out 4
      have o0 := blk_free ZX.out 0
      have o1 := blk_free ZX.out 1
      have o2 := blk_free ZX.out 2
      have o3 := blk_free ZX.out 3
      have o4 := blk_free ZX.out 4
      go_wp2_with fail
      go_region
      all_goals
        go_wp2_with fail
        have q5 := five_set ZX.out rfl (.int .i64 k) (.int .i64 n) (.string s) (.slice xa x.length xc) (.slice fa (tlen f) fc)
        have hc0 := blk_cell q5 0
        have hc1 := blk_cell q5 1
        have hc2 := blk_cell q5 2
        have hc3 := blk_cell q5 3
        have hc4 := blk_cell q5 4
        simp only [setL, Nat.zero_add, Nat.reduceAdd] at hc0 hc1 hc2 hc3 hc4
        refine bodyPost_ret (v := .tuple #[.slice (some ⟨nb, 0, none⟩) 3 3, .slice (some ⟨gr, 0, none⟩) (len l) ac, .agg #[.int .i64 k, .int .i64 n, .string s, .slice xa x.length xc, .slice fa (tlen f) fc]]) (by simp [results, Tryd.results4, go_sem, hc0, hc1, hc2, hc3, hc4]) rfl ?_
        have fe := dk_endW (w := w) (k := k) (n := n) (fc := fc) (tc := ac) (m := (len l)) rfl (ns := [nmA, nmB, nmC]) (Or.inl rfl) (XS_mono NXS.out fun _ _ h => h.1) (SA_mono TX.out fun _ _ h => h.1) TLL.out ⟨by have := L3.out; omega, hcap2⟩ (PS_mono PX.out fun _ _ h => h.1.1) XC.out (MS_mono MX.out fun _ _ h => h.1.1) TS.out EX6.out
        first | with_reducible exact fe.1 | with_reducible exact fe.2 | exact fe.1

end Go.Proofs.YtldbmlojgakieaaDoor

namespace Go.Proofs.YtldbmlojgakieaaDoor

open Go.RowKit Go.Deep

attribute [local go_sem ↓] Go.wp_at_zero Go.wp_at_succ

theorem termB_up {ns : List ByteArray} : ∀ (d : Nat) {k n : Int} {s : ByteArray} {p : List Int} {f : TM}, termB ns d k n s p f = true → termB ns (d + 1) k n s p f = true
  | 0, _, _, _, _, _, h => by simp [termB] at h
  | d + 1, k, n, s, p, f, h => by
    rw [termB] at h ⊢
    simp only [Bool.and_eq_true, List.all_eq_true, List.mem_range] at h ⊢
    exact ⟨h.1, fun i hi => termB_up d (h.2.1 i hi), h.2.2⟩

theorem kindR_yes {ns : List ByteArray} {tl : F} {k n : Int} {s : ByteArray} {p : List Int} {f : TM} (h : (kindR ns tl k n s p f).2 = true) :
    ns.length = len tl ∧ namesB ns = true ∧ fitAll tl = true ∧ termB ns 8 k n s p f = true ∧ oneT (setAll (fun _ => .nil) ns tl ns.length) k s p (evT (setAll (fun _ => .nil) ns tl ns.length) f) = some (kindR ns tl k n s p f).1 := by
  unfold kindR at h ⊢
  split at h
  · rename_i hc
    rw [if_pos hc]
    simp only [Bool.and_eq_true, decide_eq_true_eq] at hc
    refine ⟨hc.1, hc.2.1, hc.2.2.1, hc.2.2.2, ?_⟩
    cases hO : oneT (setAll (fun _ => .nil) ns tl ns.length) k s p (evT (setAll (fun _ => .nil) ns tl ns.length) f) with
    | none => rw [hO] at h; cases h
    | some g => rfl
  · cases h

/-- What a term of a type is made of is of a type. -/
theorem kindR_kid {ns : List ByteArray} {tl : F} {k n : Int} {s : ByteArray} {p : List Int} {f : TM} (h : (kindR ns tl k n s p f).2 = true) (i : Nat) (hi : i < tlen f) : (kindR ns tl (tkind f i) (tnum f i) (tname f i) (tpath f i) (tkid f i)).2 = true := by
  obtain ⟨h1, h2, h3, h4, h5⟩ := kindR_yes h
  have hk : termB ns 8 (tkind f i) (tnum f i) (tname f i) (tpath f i) (tkid f i) = true := by
    refine termB_up 7 ?_
    rw [termB] at h4
    simp only [Bool.and_eq_true, List.all_eq_true, List.mem_range] at h4
    exact h4.2.1 i hi
  cases hE : evT (setAll (fun _ => .nil) ns tl ns.length) f with
  | none => rw [hE] at h5; cases h5
  | some l =>
    have hA := evT_at hE hi
    rw [kindR_ok h1 h2 h3 hk]
    show (typeR (evTAt _ f i)).2 = true
    rw [hA]
    rfl

/-- What is told of a term, its two parts apart. -/
def KtQ (r : F) (ok : Bool) (w : World) (e : Ending) (w' : World) : Prop := ∃ a' c', e = .returned (.tuple #[.agg #[.slice a' (len r) c'], .bool ok]) ∧ TA w' w.heap.size r a' ∧ Ex w w'

end Go.Proofs.YtldbmlojgakieaaDoor

namespace Go.Proofs.YtldbmlojgakieaaDoor

open Go.RowKit Go.Deep

attribute [local go_sem ↓] Go.wp_at_zero Go.wp_at_succ

theorem termB_down {ns : List ByteArray} : ∀ (d : Nat) {k n : Int} {s : ByteArray} {p : List Int} {f : TM}, termB ns (d + 1) k n s p f = true → tdep f < d → termB ns d k n s p f = true
  | 0, _, _, _, _, _, _, h => by omega
  | d + 1, k, n, s, p, f, h, hd => by
    rw [termB] at h ⊢
    simp only [Bool.and_eq_true, List.all_eq_true, List.mem_range] at h ⊢
    exact ⟨h.1, fun i hi => termB_down d (h.2.1 i hi) (by have := tdep_kid f i hi; omega), h.2.2⟩

/-- The type of a part of a term is the part of its type. -/
theorem kindR_part {ns : List ByteArray} {tl : F} {k n : Int} {s : ByteArray} {x p : List Int} {f : TM} (h : (kindR ns tl k n s x f).2 = true) (hd : tdep f < 7) (hp : pathB p = true) (hl : p.length ≤ 4) :
    kindR ns tl 7 0 ⟨#[]⟩ p (.node 0 0 (k, n, s, x) f .nil) = typeAtR (kindR ns tl k n s x f).1 p := by
  obtain ⟨h1, h2, h3, h4, h5⟩ := kindR_yes h
  have hf : fits 4 (kindR ns tl k n s x f).1 = true := kindR_fits
  have h7 : termB ns 7 k n s x f = true := termB_down 7 h4 hd
  have ht : termB ns 8 7 0 ⟨#[]⟩ p (.node 0 0 (k, n, s, x) f .nil) = true := by
    rw [termB_tok, tokB_7]
    have e1 : tlen (.node 0 0 (k, n, s, x) f .nil : TM) = 1 := rfl
    have e2 : kidsB ns 7 (.node 0 0 (k, n, s, x) f .nil) = true := by
      simp only [kidsB, List.all_eq_true, List.mem_range]
      intro i hi
      rw [e1] at hi
      have : i = 0 := by omega
      subst this
      exact h7
    rw [e1, e2, hp, decide_eq_true hl]
    rfl
  rw [kindR_ok h1 h2 h3 ht, evT, h5]
  show typeR (oneT _ 7 _ p (some (.node 0 0 0 (kindR ns tl k n s x f).1 .nil))) = _
  generalize (kindR ns tl k n s x f).1 = r at hf
  unfold typeAtR
  rw [if_pos hf]
  show typeR (partF r p) = _
  cases partF r p <;> rfl

end Go.Proofs.YtldbmlojgakieaaDoor

namespace Go.Proofs.YtldbmlojgakieaaDoor

open Go.RowKit Go.Deep

theorem hasB_more {ns : List ByteArray} (z : ByteArray) {s : ByteArray} (h : hasB ns s = true) : hasB (ns ++ [z]) s = true := by
  simp only [hasB, List.any_append, Bool.or_eq_true] at h ⊢
  exact Or.inl h
theorem termB_more {ns : List ByteArray} (z : ByteArray) : ∀ (d : Nat) {k n : Int} {s : ByteArray} {p : List Int} {f : TM}, termB ns d k n s p f = true → termB (ns ++ [z]) d k n s p f = true
  | 0, _, _, _, _, _, h => by simp [termB] at h
  | d + 1, k, n, s, p, f, h => by
    rw [termB_tok] at h ⊢
    simp only [Bool.and_eq_true] at h ⊢
    refine ⟨h.1, ?_, ?_⟩
    · have h2 := h.2.1
      simp only [Bool.or_eq_true] at h2 ⊢
      exact h2.imp id (hasB_more z)
    · have h3 := h.2.2
      simp only [kidsB, List.all_eq_true, List.mem_range] at h3 ⊢
      exact fun i hi => termB_more z d (h3 i hi)
theorem setAll_more {L : ByteArray → F} {ns : List ByteArray} {tl v : F} (z : ByteArray) : ∀ k, k ≤ ns.length → k ≤ len tl → setAll L (ns ++ [z]) (snoc tl 0 v) k = setAll L ns tl k
  | 0, _, _ => rfl
  | k + 1, h, h' => by
    have e : (ns ++ [z]).getD k ⟨#[]⟩ = ns.getD k ⟨#[]⟩ := by
      rw [List.getD_eq_getElem?_getD, List.getD_eq_getElem?_getD, List.getElem?_append_left (by omega)]
    rw [setAll, setAll, setAll_more z k (by omega) (by omega), e, kid_snoc, if_pos (by omega)]
theorem setAll_none {ns : List ByteArray} {tl : F} {s : ByteArray} (h : hasB ns s = false) : ∀ k, k ≤ ns.length → setAll (fun _ => .nil) ns tl k s = .nil
  | 0, _ => rfl
  | k + 1, hk => by
    rw [setAll, setK]
    split
    · rename_i h2
      rw [hasB_yes (i := k) (by omega) h2] at h
      cases h
    · exact setAll_none h k (by omega)

theorem kindR_more {ns : List ByteArray} {tl : F} {k n : Int} {s : ByteArray} {p : List Int} {f : TM} (z : ByteArray) (h : (kindR ns tl k n s p f).2 = true) (hN : namesB (ns ++ [z]) = true) (hz : hasB ns z = false) :
    kindR (ns ++ [z]) (snoc tl 0 .nil) k n s p f = kindR ns tl k n s p f := by
  obtain ⟨h1, h2, h3, h4, _⟩ := kindR_yes h
  have hl : (ns ++ [z]).length = len (snoc tl 0 .nil) := by rw [len_snoc, List.length_append, h1]; rfl
  have hf : fitAll (snoc tl 0 .nil) = true := fitAll_yes fun i hi => by
    rw [len_snoc] at hi
    rw [kid_snoc]
    by_cases e : i < len tl
    · rw [if_pos e]; exact fitAll_at h3 e
    · rw [if_neg e, if_pos (by omega)]; rfl
  have hL : setAll (fun _ => .nil) (ns ++ [z]) (snoc tl 0 .nil) (ns ++ [z]).length = setAll (fun _ => .nil) ns tl ns.length := by
    rw [List.length_append]
    show setAll _ _ _ (ns.length + 1) = _
    rw [setAll, setAll_more z ns.length (Nat.le_refl _) (by omega)]
    have e : (ns ++ [z]).getD ns.length ⟨#[]⟩ = z := by
      rw [List.getD_eq_getElem?_getD, List.getElem?_append_right (Nat.le_refl _), Nat.sub_self]; rfl
    rw [e, kid_snoc, if_neg (by omega), if_pos h1]
    funext t
    rw [setK]
    split
    · rename_i h2
      have ht : hasB ns t = false := by
        have e2 : z.toList = t.toList := by simpa using h2
        simp only [hasB] at hz ⊢
        rw [← e2]; exact hz
      exact (setAll_none ht ns.length (Nat.le_refl _)).symm
    · rfl
  rw [kindR_ok hl hN hf (termB_more z 8 h4), kindR_ok h1 h2 h3 h4, hL]

end Go.Proofs.YtldbmlojgakieaaDoor
