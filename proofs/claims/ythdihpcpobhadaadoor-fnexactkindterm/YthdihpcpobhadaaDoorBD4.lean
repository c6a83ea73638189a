/- Walks: a binding that is ok. -/
import Derived.Test.YthdihpcpobhadaaDoorBD3

import Derived.Deep.RegionHeld3

namespace Go.Proofs.YthdihpcpobhadaaDoor

open Go.RowKit Go.Deep

attribute [local go_sem ↓] Go.wp_at_zero Go.wp_at_succ

theorem XA_take {w : World} {lo : Nat} {p : List ByteArray} {a : Option Addr} (h : XA w lo p a) (j : Nat) (hj : j ≤ p.length) : XA w lo (p.take j) a ∧ (p.take j).length = j := by
  have hl : (p.take j).length = j := by rw [List.length_take]; omega
  refine ⟨?_, hl⟩
  rcases h with h | ⟨b, o, e, hb, hc⟩
  · exact Or.inl (by omega)
  · refine Or.inr ⟨b, o, e, hb, fun i hi => ?_⟩
    rw [hc i (by omega)]
    simp only [List.getD]
    rw [List.getElem?_take_of_lt (by omega)]

theorem bindB_len {fs : List PM} {rec : List ByteArray → BD → TM → Bool} {ns : List ByteArray} {k : Int} {nm : List ByteArray} {fn : ByteArray} {ts : TM} {tb : BD} {tz : TM} {eb : BD} {ez : TM} (h : 60 < nm.length) : bindB fs rec ns k nm fn ts tb tz eb ez = false := by
  simp [bindB, show ¬ nm.length ≤ 60 by omega]
theorem bindB_terms {fs : List PM} {rec : List ByteArray → BD → TM → Bool} {ns : List ByteArray} {k : Int} {nm : List ByteArray} {fn : ByteArray} {ts : TM} {tb : BD} {tz : TM} {eb : BD} {ez : TM} (h : termsB ns ts = false) : bindB fs rec ns k nm fn ts tb tz eb ez = false := by
  simp [bindB, h]
theorem bindB_uniq {fs : List PM} {rec : List ByteArray → BD → TM → Bool} {ns : List ByteArray} {k : Int} {nm : List ByteArray} {fn : ByteArray} {ts : TM} {tb : BD} {tz : TM} {eb : BD} {ez : TM} (h : uniqB nm = false) : bindB fs rec ns k nm fn ts tb tz eb ez = false := by
  simp [bindB, h]
theorem bindB_kind {fs : List PM} {rec : List ByteArray → BD → TM → Bool} {ns : List ByteArray} {k : Int} {nm : List ByteArray} {fn : ByteArray} {ts : TM} {tb : BD} {tz : TM} {eb : BD} {ez : TM} (h1 : nm.length ≤ 60) (h2 : termsB ns ts = true) (h3 : uniqB nm = true) : bindB fs rec ns k nm fn ts tb tz eb ez = kindB fs rec ns k nm fn ts tb tz eb ez := by
  simp only [bindB, h1, h2, h3, decide_true, Bool.true_and]

theorem kindB_1 {fs : List PM} {rec : List ByteArray → BD → TM → Bool} {ns : List ByteArray} {nm : List ByteArray} {fn : ByteArray} {ts : TM} {tb : BD} {tz : TM} {eb : BD} {ez : TM} : kindB fs rec ns 1 nm fn ts tb tz eb ez = (decide (blen tb + tlen tz + blen eb + tlen ez = 0) && (decide (fn.size = 0) && (decide (nm.length = 1) && decide (tlen ts = 1)))) := rfl
theorem kindB_2 {fs : List PM} {rec : List ByteArray → BD → TM → Bool} {ns : List ByteArray} {nm : List ByteArray} {fn : ByteArray} {ts : TM} {tb : BD} {tz : TM} {eb : BD} {ez : TM} : kindB fs rec ns 2 nm fn ts tb tz eb ez = (decide (blen tb + tlen tz + blen eb + tlen ez = 0) && ((arityR fs fn).2.2 && (decide ((arityR fs fn).1 = tlen ts) && decide ((arityR fs fn).2.1 = nm.length)))) := rfl
theorem kindB_3 {fs : List PM} {rec : List ByteArray → BD → TM → Bool} {ns : List ByteArray} {nm : List ByteArray} {fn : ByteArray} {ts : TM} {tb : BD} {tz : TM} {eb : BD} {ez : TM} : kindB fs rec ns 3 nm fn ts tb tz eb ez = (decide (fn.size = 0) && (decide (tlen ts = 1) && (rec ns tb tz && (rec ns eb ez && (decide (tlen tz = nm.length) && decide (tlen ez = nm.length)))))) := rfl
theorem kindB_o {fs : List PM} {rec : List ByteArray → BD → TM → Bool} {ns : List ByteArray} {nm : List ByteArray} {fn : ByteArray} {ts : TM} {tb : BD} {tz : TM} {eb : BD} {ez : TM} {k : Int} (h1 : ¬ k = 1) (h2 : ¬ k = 2) (h3 : ¬ k = 3) : kindB fs rec ns k nm fn ts tb tz eb ez = false := by
  unfold kindB; rw [if_neg h1, if_neg h2, if_neg h3]

end Go.Proofs.YthdihpcpobhadaaDoor
