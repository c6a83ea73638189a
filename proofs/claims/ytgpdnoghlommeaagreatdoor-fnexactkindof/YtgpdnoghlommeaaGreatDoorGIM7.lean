/- Walks: functions by name, and bindings that have just what their kinds say. Walks: the program's bindings that are ok. -/
import Derived.Test.YtgpdnoghlommeaaGreatDoorGE1
import Derived.Test.YtgpdnoghlommeaaGreatDoorGTO0
import Derived.Test.YtgpdnoghlommeaaGreatDoorGBD4
namespace Go.Proofs.YtgpdnoghlommeaaGreatDoor

open Go.RowKit Go.Deep Go.Maps Go.WideMaps

attribute [local go_sem ↓] Go.wp_at_zero Go.wp_at_succ

/-- What a name's function is given and says, if there is one; its cells. -/
def NamedP (l : List PM) (s : ByteArray) (w : World) (e : Ending) (w' : World) : Prop := ∃ (gn : ByteArray) (a1 : Option Addr) (np k1 : Nat) (a2 : Option Addr) (nb k2 : Nat) (a3 : Option Addr) (nz k3 : Nat) (ok : Bool),
  e = .returned (.tuple #[.agg #[.string gn, .slice a1 np k1, .slice a2 nb k2, .slice a3 nz k3], .bool ok]) ∧ arityR l s = (np, nz, ok) ∧ Ex w w'

set_option maxRecDepth 100000 in
set_option maxHeartbeats 2000000 in
theorem named_any (l : List PM) (a : Option Addr) (c : Nat) (s : ByteArray) (w : World) (hl : l.length ≤ 1000000000) (hQ : QA w 0 l a) :
    Calls Tryz.prog 58 #[.slice a l.length c, .string s] w (NamedP l s w) := by
  have Q : Hid (∀ w', Ex w w' → QA w' 0 l a) := fun _ h => QA_below hQ h
  have N : Hid (Ex w (w.alloc (.cells #[.string ⟨#[]⟩, .slice none 0 0, .slice none 0 0, .slice none 0 0] 61))) := Ex.new _ _
  have BZ : Hid (∀ w', Ex (w.alloc (.cells #[.string ⟨#[]⟩, .slice none 0 0, .slice none 0 0, .slice none 0 0] 61)) w' → w'.heap[w.heap.size]? = some (.cells #[.string ⟨#[]⟩, .slice none 0 0, .slice none 0 0, .slice none 0 0] 61 (0, 0))) := fun w' h => h.blk (heap_alloc_new _ _)
  clear hQ
  go_enter Tryz.func58, Tryz.ntmps58
  go_wp2_with fail
  go_loopw [7, 10] (fun _ i wr => ∃ (j : Nat), j ≤ l.length ∧ i = .int .i64 j ∧ (∀ k, k < j → ((l.getD k pm0).name.toList == s.toList) = false) ∧ Ex (w.alloc (.cells #[.string ⟨#[]⟩, .slice none 0 0, .slice none 0 0, .slice none 0 0] 61)) wr) (fun _ i _ => l.length - (intOf i).toNat)
  case atStart => exact ⟨0, by omega, rfl, fun j hj => by omega, Ex.refl _⟩
  case round =>
    obtain ⟨j, hj, rfl, hall, hx⟩ := hrel
    have A : Hid (∀ k, k < j → ((l.getD k pm0).name.toList == s.toList) = false) := hall
    have E : Hid (Ex (w.alloc (.cells #[.string ⟨#[]⟩, .slice none 0 0, .slice none 0 0, .slice none 0 0] 61)) wr) := hx
    have zr : w.heap.size < wr.heap.size := by have := hx.size; rw [World.size_alloc] at this; omega
    clear hall hx
    by_cases hlt : j < l.length
    · obtain ⟨b, o, rfl, _, hbs, hk⟩ := QA_at (Q.out wr (N.out.trans E.out)) (by omega)
      obtain ⟨e0, ⟨a1, k1, e1, hh1⟩, ⟨a2, k2, e2, hh2⟩, ⟨a3, k3, e3, hh3⟩⟩ := hk j (by omega)
      clear hh1 hh2 hh3
      have U : Hid (((l.getD j pm0).name.toList == s.toList) = false → ∀ k, k < j + 1 → ((l.getD k pm0).name.toList == s.toList) = false) := fun h => upto_succ A.out h
      have V : Hid (((l.getD j pm0).name.toList == s.toList) = true → arityR l s = ((l.getD j pm0).params.length, tlen (l.getD j pm0).says, true)) := fun h => by have := arity_yes (m := l.length) hlt hlt A.out h; rw [List.take_length] at this; exact this
      obtain ⟨g, hg⟩ : ∃ g, l.getD j pm0 = g := ⟨_, rfl⟩
      rw [hg] at e0 e1 e2 e3 U V
      clear hk hg
      obtain ⟨gn, gp, gb, gs⟩ := g
      dsimp only at e0 e1 e2 e3 U V
      cases he : gn.toList == s.toList with
      | true =>
        have HR : Hid _ := V.out he
        have hR := BZ.out _ E.out
        have qQ : (setL wr w.heap.size 0 [.string gn, .slice a1 gp.length k1, .slice a2 (blen gb) k2, .slice a3 (tlen gs) k3]).heap[w.heap.size]? = some (.cells #[.string gn, .slice a1 gp.length k1, .slice a2 (blen gb) k2, .slice a3 (tlen gs) k3] 61 (0, 0)) := (setL_blk (o := 0) [.string gn, .slice a1 gp.length k1, .slice a2 (blen gb) k2, .slice a3 (tlen gs) k3] hR).trans (by rw [setA_all [.string gn, .slice a1 gp.length k1, .slice a2 (blen gb) k2, .slice a3 (tlen gs) k3] #[.string ⟨#[]⟩, .slice none 0 0, .slice none 0 0, .slice none 0 0] rfl])
        have RR0 : Hid (((setL wr w.heap.size 0 [.string gn, .slice a1 gp.length k1, .slice a2 (blen gb) k2, .slice a3 (tlen gs) k3]).alloc (.cells #[.string gn, .slice a1 gp.length k1, .slice a2 (blen gb) k2, .slice a3 (tlen gs) k3] 61)).cell? ⟨w.heap.size, 0, none⟩ = some (.string gn)) := Ex.at (Ex.new _ _) (blk_cell qQ 0)
        have RR1 : Hid (((setL wr w.heap.size 0 [.string gn, .slice a1 gp.length k1, .slice a2 (blen gb) k2, .slice a3 (tlen gs) k3]).alloc (.cells #[.string gn, .slice a1 gp.length k1, .slice a2 (blen gb) k2, .slice a3 (tlen gs) k3] 61)).cell? ⟨w.heap.size, 1, none⟩ = some (.slice a1 gp.length k1)) := Ex.at (Ex.new _ _) (blk_cell qQ 1)
        have RR2 : Hid (((setL wr w.heap.size 0 [.string gn, .slice a1 gp.length k1, .slice a2 (blen gb) k2, .slice a3 (tlen gs) k3]).alloc (.cells #[.string gn, .slice a1 gp.length k1, .slice a2 (blen gb) k2, .slice a3 (tlen gs) k3] 61)).cell? ⟨w.heap.size, 2, none⟩ = some (.slice a2 (blen gb) k2)) := Ex.at (Ex.new _ _) (blk_cell qQ 2)
        have RR3 : Hid (((setL wr w.heap.size 0 [.string gn, .slice a1 gp.length k1, .slice a2 (blen gb) k2, .slice a3 (tlen gs) k3]).alloc (.cells #[.string gn, .slice a1 gp.length k1, .slice a2 (blen gb) k2, .slice a3 (tlen gs) k3] 61)).cell? ⟨w.heap.size, 3, none⟩ = some (.slice a3 (tlen gs) k3)) := Ex.at (Ex.new _ _) (blk_cell qQ 3)
        have QX : Hid (Ex w ((setL wr w.heap.size 0 [.string gn, .slice a1 gp.length k1, .slice a2 (blen gb) k2, .slice a3 (tlen gs) k3]).alloc (.cells #[.string gn, .slice a1 gp.length k1, .slice a2 (blen gb) k2, .slice a3 (tlen gs) k3] 61))) := (setL_ex (o := 0) (b := w.heap.size) [.string gn, .slice a1 gp.length k1, .slice a2 (blen gb) k2, .slice a3 (tlen gs) k3] (N.out.trans E.out) (Nat.le_refl _)).alloc _
        have cr0 : wr.cell? ⟨w.heap.size, 0, none⟩ = some (.string ⟨#[]⟩) := blk_cell (BZ.out _ E.out) 0
        have cr1 : wr.cell? ⟨w.heap.size, 1, none⟩ = some (.slice none 0 0) := blk_cell (BZ.out _ E.out) 1
        have cr2 : wr.cell? ⟨w.heap.size, 2, none⟩ = some (.slice none 0 0) := blk_cell (BZ.out _ E.out) 2
        have cr3 : wr.cell? ⟨w.heap.size, 3, none⟩ = some (.slice none 0 0) := blk_cell (BZ.out _ E.out) 3
        have fr0 := blk_free hR 0
        have fr1 := blk_free hR 1
        have fr2 := blk_free hR 2
        have fr3 := blk_free hR 3
        clear hR qQ
        go_wp2_with fail
        have r0 := RR0.out
        have r1 := RR1.out
        have r2 := RR2.out
        have r3 := RR3.out
        simp only [setL, Nat.zero_add, Nat.reduceAdd] at r0 r1 r2 r3
        refine bodyPost_ret (v := .tuple #[.agg #[.string gn, .slice a1 gp.length k1, .slice a2 (blen gb) k2, .slice a3 (tlen gs) k3], .bool true]) (by simp [results, Tryz.results58, go_sem, r0, r1, r2, r3]) rfl ?_
        exact ⟨_, _, _, _, _, _, _, _, _, _, _, rfl, HR.out, QX.out⟩
      | false =>
        have HU : Hid _ := U.out he
        go_wp2_with fail
        go_roundw
        case rel => exact ⟨j + 1, by omega, by go_num, HU.out, E.out.alloc _⟩
        case measure => simp [intOf]; omega
    · have HR : Hid (arityR l s = (0, 0, false)) := by
        show _ = _
        have := arity_no (Nat.le_refl l.length) (s := s) fun k hk => A.out k (by omega)
        rw [List.take_length] at this; exact this
      have hR := BZ.out _ E.out
      have qQ := (setL_blk (o := 0) [.string ⟨#[]⟩, .slice none 0 0, .slice none 0 0, .slice none 0 0] hR).trans (by rw [setA_all [.string ⟨#[]⟩, .slice none 0 0, .slice none 0 0, .slice none 0 0] #[.string ⟨#[]⟩, .slice none 0 0, .slice none 0 0, .slice none 0 0] rfl])
      have RR0 : Hid _ := blk_cell qQ 0
      have RR1 : Hid _ := blk_cell qQ 1
      have RR2 : Hid _ := blk_cell qQ 2
      have RR3 : Hid _ := blk_cell qQ 3
      have QX : Hid _ := setL_ex (o := 0) (b := w.heap.size) [.string ⟨#[]⟩, .slice none 0 0, .slice none 0 0, .slice none 0 0] (N.out.trans E.out) (Nat.le_refl _)
      have cr0 : wr.cell? ⟨w.heap.size, 0, none⟩ = some (.string ⟨#[]⟩) := blk_cell hR 0
      have cr1 : wr.cell? ⟨w.heap.size, 1, none⟩ = some (.slice none 0 0) := blk_cell hR 1
      have cr2 : wr.cell? ⟨w.heap.size, 2, none⟩ = some (.slice none 0 0) := blk_cell hR 2
      have cr3 : wr.cell? ⟨w.heap.size, 3, none⟩ = some (.slice none 0 0) := blk_cell hR 3
      have fr0 := blk_free hR 0
      have fr1 := blk_free hR 1
      have fr2 := blk_free hR 2
      have fr3 := blk_free hR 3
      clear hR qQ
      go_wp2_with fail
      have r0 := RR0.out
      have r1 := RR1.out
      have r2 := RR2.out
      have r3 := RR3.out
      simp only [setL, Nat.zero_add, Nat.reduceAdd] at r0 r1 r2 r3
      refine bodyPost_ret (v := .tuple #[.agg #[.string ⟨#[]⟩, .slice none 0 0, .slice none 0 0, .slice none 0 0], .bool false]) (by simp [results, Tryz.results58, go_sem, r0, r1, r2, r3]) rfl ?_
      exact ⟨_, _, _, _, _, _, _, _, _, _, _, rfl, HR.out, QX.out⟩

/-- Both bodies are nothing. -/
def nobB (tb : BD) (tz : TM) (eb : BD) (ez : TM) : Bool := (decide (blen tb = 0) && decide (tlen tz = 0)) && (decide (blen eb = 0) && decide (tlen ez = 0))
/-- A binding has just what its kind says, as the program asks it. -/
def bokB (fs : List PM) (k : Int) (nm : List ByteArray) (fn : ByteArray) (ts : TM) (tb : BD) (tz : TM) (eb : BD) (ez : TM) : Bool :=
  if k = 1 then nobB tb tz eb ez && (decide (fn.size = 0) && (decide (tlen ts = 1) && decide (nm.length = 1)))
  else if k = 2 then nobB tb tz eb ez && ((arityR fs fn).2.2 && (decide (tlen ts = (arityR fs fn).1) && decide (nm.length = (arityR fs fn).2.1)))
  else if k = 3 then decide (fn.size = 0) && (decide (tlen ts = 1) && (decide (nm.length = tlen tz) && decide (nm.length = tlen ez)))
  else false
theorem bokB_1 {fs : List PM} {nm : List ByteArray} {fn : ByteArray} {ts : TM} {tb : BD} {tz : TM} {eb : BD} {ez : TM} : bokB fs 1 nm fn ts tb tz eb ez = (nobB tb tz eb ez && (decide (fn.size = 0) && (decide (tlen ts = 1) && decide (nm.length = 1)))) := rfl
theorem bokB_2 {fs : List PM} {nm : List ByteArray} {fn : ByteArray} {ts : TM} {tb : BD} {tz : TM} {eb : BD} {ez : TM} {np nz : Nat} {ok : Bool} (h : arityR fs fn = (np, nz, ok)) : bokB fs 2 nm fn ts tb tz eb ez = (nobB tb tz eb ez && (ok && (decide (tlen ts = np) && decide (nm.length = nz)))) := by
  show (nobB tb tz eb ez && ((arityR fs fn).2.2 && (decide (tlen ts = (arityR fs fn).1) && decide (nm.length = (arityR fs fn).2.1)))) = _
  rw [h]
theorem bokB_3 {fs : List PM} {nm : List ByteArray} {fn : ByteArray} {ts : TM} {tb : BD} {tz : TM} {eb : BD} {ez : TM} : bokB fs 3 nm fn ts tb tz eb ez = (decide (fn.size = 0) && (decide (tlen ts = 1) && (decide (nm.length = tlen tz) && decide (nm.length = tlen ez)))) := rfl
theorem bokB_o {fs : List PM} {k : Int} {nm : List ByteArray} {fn : ByteArray} {ts : TM} {tb : BD} {tz : TM} {eb : BD} {ez : TM} (h1 : ¬ k = 1) (h2 : ¬ k = 2) (h3 : ¬ k = 3) : bokB fs k nm fn ts tb tz eb ez = false := by
  unfold bokB; rw [if_neg h1, if_neg h2, if_neg h3]
theorem sum_nob (tb : BD) (tz : TM) (eb : BD) (ez : TM) : decide (blen tb + tlen tz + blen eb + tlen ez = 0) = nobB tb tz eb ez := by
  simp only [nobB]
  by_cases h1 : blen tb = 0 <;> by_cases h2 : tlen tz = 0 <;> by_cases h3 : blen eb = 0 <;> by_cases h4 : tlen ez = 0 <;> simp [h1, h2, h3, h4]
theorem decide_comm (a b : Nat) : decide (a = b) = decide (b = a) := by
  by_cases h : a = b
  · rw [decide_eq_true h, decide_eq_true h.symm]
  · rw [decide_eq_false h, decide_eq_false (fun e => h e.symm)]
/-- The two ways to ask are one, where no function ahead is given more than 60. -/
theorem bind_bok {fs : List PM} {rec : List ByteArray → BD → TM → Bool} {ns : List ByteArray} {k : Int} {nm : List ByteArray} {fn : ByteArray} {ts : TM} {tb : BD} {tz : TM} {eb : BD} {ez : TM} (h60 : (arityR fs fn).1 ≤ 60) :
    bindB fs rec ns k nm fn ts tb tz eb ez = (namesB nm && (bokB fs k nm fn ts tb tz eb ez && (kidsB ns 8 ts && (if k = 3 then rec ns tb tz && rec ns eb ez else true)))) := by
  have ht : termsB ns ts = (decide (tlen ts ≤ 60) && kidsB ns 8 ts) := rfl
  have e : bindB fs rec ns k nm fn ts tb tz eb ez = (namesB nm && (kindB fs rec ns k nm fn ts tb tz eb ez && (decide (tlen ts ≤ 60) && kidsB ns 8 ts))) := by
    simp only [bindB, namesB, ht]
    cases decide (nm.length ≤ 60) <;> cases uniqB nm <;> cases decide (tlen ts ≤ 60) <;> cases kidsB ns 8 ts <;> simp
  rw [e]
  congr 1
  by_cases k1 : k = 1
  · subst k1
    rw [kindB_1, bokB_1, sum_nob, if_neg (by decide)]
    by_cases h : tlen ts = 1
    · rw [decide_eq_true h, decide_eq_true (show tlen ts ≤ 60 by omega)]
      cases nobB tb tz eb ez <;> cases decide (fn.size = 0) <;> cases decide (nm.length = 1) <;> cases kidsB ns 8 ts <;> rfl
    · rw [decide_eq_false h]; simp
  by_cases k2 : k = 2
  · subst k2
    rw [kindB_2, if_neg (by decide)]
    obtain ⟨⟨np, nz, ok⟩, hg⟩ : ∃ r, arityR fs fn = r := ⟨_, rfl⟩
    rw [bokB_2 hg]
    rw [hg] at h60 ⊢
    dsimp only at h60 ⊢
    rw [sum_nob, decide_comm np, decide_comm nz]
    by_cases h : tlen ts = np
    · rw [decide_eq_true h, decide_eq_true (show tlen ts ≤ 60 by omega)]
      cases nobB tb tz eb ez <;> cases ok <;> cases decide (nm.length = nz) <;> cases kidsB ns 8 ts <;> rfl
    · rw [decide_eq_false h]; simp
  by_cases k3 : k = 3
  · subst k3
    rw [kindB_3, bokB_3, if_pos rfl, decide_comm (tlen tz), decide_comm (tlen ez)]
    by_cases h : tlen ts = 1
    · rw [decide_eq_true h, decide_eq_true (show tlen ts ≤ 60 by omega)]
      cases decide (fn.size = 0) <;> cases rec ns tb tz <;> cases rec ns eb ez <;> cases decide (nm.length = tlen tz) <;> cases decide (nm.length = tlen ez) <;> cases kidsB ns 8 ts <;> rfl
    · rw [decide_eq_false h]; simp
  rw [kindB_o k1 k2 k3, bokB_o k1 k2 k3]; simp

set_option maxRecDepth 100000 in
set_option maxHeartbeats 4000000 in
theorem bindOk_any (fs : List PM) (la : Option Addr) (lc : Nat) (hl : fs.length ≤ 1000000000) (k : Int) (nm : List ByteArray) (nma : Option Addr) (nmc : Nat) (fn : ByteArray) (ts : TM) (tsa : Option Addr) (tsc : Nat) (tb : BD) (tba : Option Addr) (tbc : Nat) (tz : TM) (tza : Option Addr) (tzc : Nat) (eb : BD) (eba : Option Addr) (ebc : Nat) (ez : TM) (eza : Option Addr) (ezc : Nat) (w : World) (hQ : QA w 0 fs la) :
    Calls Tryz.prog 145 #[.slice la fs.length lc, .agg #[.int .i64 k, .slice nma nm.length nmc, .string fn, .slice tsa (tlen ts) tsc, .slice tba (blen tb) tbc, .slice tza (tlen tz) tzc, .slice eba (blen eb) ebc, .slice eza (tlen ez) ezc]] w fun e w' => e = .returned (.bool (bokB fs k nm fn ts tb tz eb ez)) ∧ Ex w w' := by
  have Q : Hid (∀ w', Ex w w' → QA w' 0 fs la) := fun _ h => QA_below hQ h
  have N : Hid (Ex w (w.alloc (.cells #[.int .i64 k, .slice nma nm.length nmc, .string fn, .slice tsa (tlen ts) tsc, .slice tba (blen tb) tbc, .slice tza (tlen tz) tzc, .slice eba (blen eb) ebc, .slice eza (tlen ez) ezc] 102))) := Ex.new _ _
  have C : Hid (∀ w', Ex (w.alloc (.cells #[.int .i64 k, .slice nma nm.length nmc, .string fn, .slice tsa (tlen ts) tsc, .slice tba (blen tb) tbc, .slice tza (tlen tz) tzc, .slice eba (blen eb) ebc, .slice eza (tlen ez) ezc] 102)) w' → w'.cell? ⟨w.heap.size, 0, none⟩ = some (.int .i64 k) ∧ w'.cell? ⟨w.heap.size, 1, none⟩ = some (.slice nma nm.length nmc) ∧ w'.cell? ⟨w.heap.size, 2, none⟩ = some (.string fn) ∧ w'.cell? ⟨w.heap.size, 3, none⟩ = some (.slice tsa (tlen ts) tsc) ∧ w'.cell? ⟨w.heap.size, 4, none⟩ = some (.slice tba (blen tb) tbc) ∧ w'.cell? ⟨w.heap.size, 5, none⟩ = some (.slice tza (tlen tz) tzc) ∧ w'.cell? ⟨w.heap.size, 6, none⟩ = some (.slice eba (blen eb) ebc) ∧ w'.cell? ⟨w.heap.size, 7, none⟩ = some (.slice eza (tlen ez) ezc)) := fun w' h => ⟨h.at (by simp), h.at (by simp), h.at (by simp), h.at (by simp), h.at (by simp), h.at (by simp), h.at (by simp), h.at (by simp)⟩
  obtain ⟨R, hR⟩ : ∃ R, R = bokB fs k nm fn ts tb tz eb ez := ⟨_, rfl⟩
  have RR : Hid (R = bokB fs k nm fn ts tb tz eb ez) := hR
  rw [← hR]
  obtain ⟨b1, hb1⟩ : ∃ b, (decide (blen tb = 0) && decide (tlen tz = 0)) = b := ⟨_, rfl⟩
  obtain ⟨b2, hb2⟩ : ∃ b, (decide (blen eb = 0) && decide (tlen ez = 0)) = b := ⟨_, rfl⟩
  have DN : Hid (nobB tb tz eb ez = (b1 && b2)) := by show _ = _; rw [nobB, hb1, hb2]
  have B1 : Hid (∀ w', Calls Tryz.prog 159 #[.agg #[.slice tba (blen tb) tbc, .slice tza (tlen tz) tzc]] w' fun e w'' => e = .returned (.bool b1) ∧ Ex w' w'') := fun w' => by have := bodyNothing_any tb tba tbc tz tza tzc w'; rw [hb1] at this; exact this
  have B2 : Hid (∀ w', Calls Tryz.prog 159 #[.agg #[.slice eba (blen eb) ebc, .slice eza (tlen ez) ezc]] w' fun e w'' => e = .returned (.bool b2) ∧ Ex w' w'') := fun w' => by have := bodyNothing_any eb eba ebc ez eza ezc w'; rw [hb2] at this; exact this
  clear hR hb1 hb2 hQ
  go_enter Tryz.func145, Tryz.ntmps145
  go_wp2_with fail
  refine (B1.out _).mono ?_
  rintro e w1 ⟨rfl, hx1⟩
  have X1 : Hid (Ex (w.alloc (.cells #[.int .i64 k, .slice nma nm.length nmc, .string fn, .slice tsa (tlen ts) tsc, .slice tba (blen tb) tbc, .slice tza (tlen tz) tzc, .slice eba (blen eb) ebc, .slice eza (tlen ez) ezc] 102)) w1) := hx1
  obtain ⟨c0, c1, c2, c3, c4, c5, c6, c7⟩ := C.out w1 hx1
  clear hx1 B1
  cases b1 with
  | false =>
    by_cases k1 : k = 1
    · subst k1
      have HV : Hid (R = false) := RR.out.trans (by rw [bokB_1, DN.out]; rfl)
      go_wp2_with fail
      go_ret
      exact ⟨ret_b HV.out.symm, N.out.trans X1.out⟩
    by_cases k2 : k = 2
    · subst k2
      go_wp2_with fail
      refine (named_any fs la lc fn _ hl (Q.out _ (N.out.trans X1.out))).mono ?_
      rintro e w4 ⟨gn, a1, np, kk1, a2, nb, kk2, a3, nz, kk3, ok, rfl, hg, hx4⟩
      have G : Hid _ := hg
      have X4 : Hid (Ex _ w4) := X1.out.trans hx4
      have z4 : w.heap.size < w4.heap.size := by have := X4.out.size; rw [World.size_alloc] at this; omega
      clear hg hx4 c0 c1 c2 c3 c4 c5 c6 c7
      obtain ⟨c0, c1, c2, c3, c4, c5, c6, c7⟩ := C.out w4 X4.out
      have HV : Hid (R = false) := RR.out.trans (by rw [bokB_2 G.out, DN.out]; rfl)
      go_wp2_with fail
      go_ret
      exact ⟨ret_b HV.out.symm, N.out.trans (X4.out.alloc _)⟩
    by_cases k3 : k = 3
    · subst k3
      by_cases hF : fn.size = 0
      · have f0 : fn.toList.isEmpty = true := empty_size hF
        by_cases ht : tlen ts = 1
        · have ht1 : ((tlen ts : Int) == 1) = true := by rw [beq_iff_eq]; omega
          have htH : Hid (tlen ts = 1) := ht
          clear ht
          by_cases hz : nm.length = tlen tz
          · have hz1 : ((nm.length : Int) == (tlen tz : Int)) = true := by rw [beq_iff_eq]; omega
            have hzH : Hid (nm.length = tlen tz) := hz
            clear hz
            by_cases he : nm.length = tlen ez
            · have he1 : ((nm.length : Int) == (tlen ez : Int)) = true := by rw [beq_iff_eq]; omega
              have heH : Hid (nm.length = tlen ez) := he
              clear he
              have HV : Hid (R = true) := RR.out.trans (by rw [bokB_3, decide_eq_true hF, decide_eq_true htH.out, decide_eq_true hzH.out, decide_eq_true heH.out]; rfl)
              go_wp2_with fail
              go_ret
              exact ⟨ret_b HV.out.symm, N.out.trans X1.out⟩
            · have he1 : ((nm.length : Int) == (tlen ez : Int)) = false := by rw [beq_eq_false_iff_ne]; omega
              have HV : Hid (R = false) := RR.out.trans (by rw [bokB_3, decide_eq_true hF, decide_eq_true htH.out, decide_eq_true hzH.out, decide_eq_false he]; rfl)
              go_wp2_with fail
              go_ret
              exact ⟨ret_b HV.out.symm, N.out.trans X1.out⟩
          · have hz1 : ((nm.length : Int) == (tlen tz : Int)) = false := by rw [beq_eq_false_iff_ne]; omega
            have HV : Hid (R = false) := RR.out.trans (by rw [bokB_3, decide_eq_true hF, decide_eq_true htH.out, decide_eq_false hz]; rfl)
            go_wp2_with fail
            go_ret
            exact ⟨ret_b HV.out.symm, N.out.trans X1.out⟩
        · have ht1 : ((tlen ts : Int) == 1) = false := by rw [beq_eq_false_iff_ne]; omega
          have HV : Hid (R = false) := RR.out.trans (by rw [bokB_3, decide_eq_true hF, decide_eq_false ht]; rfl)
          go_wp2_with fail
          go_ret
          exact ⟨ret_b HV.out.symm, N.out.trans X1.out⟩
      · have f0 : fn.toList.isEmpty = false := full_size hF
        have HV : Hid (R = false) := RR.out.trans (by rw [bokB_3, decide_eq_false hF]; rfl)
        go_wp2_with fail
        go_ret
        exact ⟨ret_b HV.out.symm, N.out.trans X1.out⟩
    have q1 : (k == 1) = false := by rw [beq_eq_false_iff_ne]; exact k1
    have q2 : (k == 2) = false := by rw [beq_eq_false_iff_ne]; exact k2
    have q3 : (k == 3) = false := by rw [beq_eq_false_iff_ne]; exact k3
    have HV : Hid (R = false) := RR.out.trans (bokB_o k1 k2 k3)
    go_wp2_with fail
    go_ret
    exact ⟨ret_b HV.out.symm, N.out.trans X1.out⟩
  | true =>
    go_wp2_with fail
    refine (B2.out _).mono ?_
    rintro e w2 ⟨rfl, hx2⟩
    have X2 : Hid (Ex (w.alloc (.cells #[.int .i64 k, .slice nma nm.length nmc, .string fn, .slice tsa (tlen ts) tsc, .slice tba (blen tb) tbc, .slice tza (tlen tz) tzc, .slice eba (blen eb) ebc, .slice eza (tlen ez) ezc] 102)) w2) := X1.out.trans hx2
    clear hx2 B2 c0 c1 c2 c3 c4 c5 c6 c7
    obtain ⟨c0, c1, c2, c3, c4, c5, c6, c7⟩ := C.out w2 X2.out
    cases b2 with
    | false =>
      by_cases k1 : k = 1
      · subst k1
        have HV : Hid (R = false) := RR.out.trans (by rw [bokB_1, DN.out]; rfl)
        go_wp2_with fail
        go_ret
        exact ⟨ret_b HV.out.symm, N.out.trans X2.out⟩
      by_cases k2 : k = 2
      · subst k2
        go_wp2_with fail
        refine (named_any fs la lc fn _ hl (Q.out _ (N.out.trans X2.out))).mono ?_
        rintro e w4 ⟨gn, a1, np, kk1, a2, nb, kk2, a3, nz, kk3, ok, rfl, hg, hx4⟩
        have G : Hid _ := hg
        have X4 : Hid (Ex _ w4) := X2.out.trans hx4
        have z4 : w.heap.size < w4.heap.size := by have := X4.out.size; rw [World.size_alloc] at this; omega
        clear hg hx4 c0 c1 c2 c3 c4 c5 c6 c7
        obtain ⟨c0, c1, c2, c3, c4, c5, c6, c7⟩ := C.out w4 X4.out
        have HV : Hid (R = false) := RR.out.trans (by rw [bokB_2 G.out, DN.out]; rfl)
        go_wp2_with fail
        go_ret
        exact ⟨ret_b HV.out.symm, N.out.trans (X4.out.alloc _)⟩
      by_cases k3 : k = 3
      · subst k3
        by_cases hF : fn.size = 0
        · have f0 : fn.toList.isEmpty = true := empty_size hF
          by_cases ht : tlen ts = 1
          · have ht1 : ((tlen ts : Int) == 1) = true := by rw [beq_iff_eq]; omega
            have htH : Hid (tlen ts = 1) := ht
            clear ht
            by_cases hz : nm.length = tlen tz
            · have hz1 : ((nm.length : Int) == (tlen tz : Int)) = true := by rw [beq_iff_eq]; omega
              have hzH : Hid (nm.length = tlen tz) := hz
              clear hz
              by_cases he : nm.length = tlen ez
              · have he1 : ((nm.length : Int) == (tlen ez : Int)) = true := by rw [beq_iff_eq]; omega
                have heH : Hid (nm.length = tlen ez) := he
                clear he
                have HV : Hid (R = true) := RR.out.trans (by rw [bokB_3, decide_eq_true hF, decide_eq_true htH.out, decide_eq_true hzH.out, decide_eq_true heH.out]; rfl)
                go_wp2_with fail
                go_ret
                exact ⟨ret_b HV.out.symm, N.out.trans X2.out⟩
              · have he1 : ((nm.length : Int) == (tlen ez : Int)) = false := by rw [beq_eq_false_iff_ne]; omega
                have HV : Hid (R = false) := RR.out.trans (by rw [bokB_3, decide_eq_true hF, decide_eq_true htH.out, decide_eq_true hzH.out, decide_eq_false he]; rfl)
                go_wp2_with fail
                go_ret
                exact ⟨ret_b HV.out.symm, N.out.trans X2.out⟩
            · have hz1 : ((nm.length : Int) == (tlen tz : Int)) = false := by rw [beq_eq_false_iff_ne]; omega
              have HV : Hid (R = false) := RR.out.trans (by rw [bokB_3, decide_eq_true hF, decide_eq_true htH.out, decide_eq_false hz]; rfl)
              go_wp2_with fail
              go_ret
              exact ⟨ret_b HV.out.symm, N.out.trans X2.out⟩
          · have ht1 : ((tlen ts : Int) == 1) = false := by rw [beq_eq_false_iff_ne]; omega
            have HV : Hid (R = false) := RR.out.trans (by rw [bokB_3, decide_eq_true hF, decide_eq_false ht]; rfl)
            go_wp2_with fail
            go_ret
            exact ⟨ret_b HV.out.symm, N.out.trans X2.out⟩
        · have f0 : fn.toList.isEmpty = false := full_size hF
          have HV : Hid (R = false) := RR.out.trans (by rw [bokB_3, decide_eq_false hF]; rfl)
          go_wp2_with fail
          go_ret
          exact ⟨ret_b HV.out.symm, N.out.trans X2.out⟩
      have q1 : (k == 1) = false := by rw [beq_eq_false_iff_ne]; exact k1
      have q2 : (k == 2) = false := by rw [beq_eq_false_iff_ne]; exact k2
      have q3 : (k == 3) = false := by rw [beq_eq_false_iff_ne]; exact k3
      have HV : Hid (R = false) := RR.out.trans (bokB_o k1 k2 k3)
      go_wp2_with fail
      go_ret
      exact ⟨ret_b HV.out.symm, N.out.trans X2.out⟩
    | true =>
      by_cases k1 : k = 1
      · subst k1
        by_cases hF : fn.size = 0
        · have f0 : fn.toList.isEmpty = true := empty_size hF
          by_cases ht : tlen ts = 1
          · have ht1 : ((tlen ts : Int) == 1) = true := by rw [beq_iff_eq]; omega
            have htH : Hid (tlen ts = 1) := ht
            clear ht
            by_cases hn : nm.length = 1
            · have hn1 : ((nm.length : Int) == 1) = true := by rw [beq_iff_eq]; omega
              have hnH : Hid (nm.length = 1) := hn
              clear hn
              have HV : Hid (R = true) := RR.out.trans (by rw [bokB_1, DN.out, decide_eq_true hF, decide_eq_true htH.out, decide_eq_true hnH.out]; rfl)
              go_wp2_with fail
              go_ret
              exact ⟨ret_b HV.out.symm, N.out.trans X2.out⟩
            · have hn1 : ((nm.length : Int) == 1) = false := by rw [beq_eq_false_iff_ne]; omega
              have HV : Hid (R = false) := RR.out.trans (by rw [bokB_1, DN.out, decide_eq_true hF, decide_eq_true htH.out, decide_eq_false hn]; rfl)
              go_wp2_with fail
              go_ret
              exact ⟨ret_b HV.out.symm, N.out.trans X2.out⟩
          · have ht1 : ((tlen ts : Int) == 1) = false := by rw [beq_eq_false_iff_ne]; omega
            have HV : Hid (R = false) := RR.out.trans (by rw [bokB_1, DN.out, decide_eq_true hF, decide_eq_false ht]; rfl)
            go_wp2_with fail
            go_ret
            exact ⟨ret_b HV.out.symm, N.out.trans X2.out⟩
        · have f0 : fn.toList.isEmpty = false := full_size hF
          have HV : Hid (R = false) := RR.out.trans (by rw [bokB_1, DN.out, decide_eq_false hF]; rfl)
          go_wp2_with fail
          go_ret
          exact ⟨ret_b HV.out.symm, N.out.trans X2.out⟩
      by_cases k2 : k = 2
      · subst k2
        go_wp2_with fail
        refine (named_any fs la lc fn _ hl (Q.out _ (N.out.trans X2.out))).mono ?_
        rintro e w4 ⟨gn, a1, np, kk1, a2, nb, kk2, a3, nz, kk3, ok, rfl, hg, hx4⟩
        have G : Hid _ := hg
        have X4 : Hid (Ex _ w4) := X2.out.trans hx4
        have z4 : w.heap.size < w4.heap.size := by have := X4.out.size; rw [World.size_alloc] at this; omega
        clear hg hx4 c0 c1 c2 c3 c4 c5 c6 c7
        obtain ⟨c0, c1, c2, c3, c4, c5, c6, c7⟩ := C.out w4 X4.out
        cases ok with
        | false =>
          have HV : Hid (R = false) := RR.out.trans (by rw [bokB_2 G.out, DN.out]; rfl)
          go_wp2_with fail
          go_ret
          exact ⟨ret_b HV.out.symm, N.out.trans (X4.out.alloc _)⟩
        | true =>
          by_cases ht : tlen ts = np
          · have ht1 : ((tlen ts : Int) == (np : Int)) = true := by rw [beq_iff_eq]; omega
            have htH : Hid (tlen ts = np) := ht
            clear ht
            by_cases hn : nm.length = nz
            · have hn1 : ((nm.length : Int) == (nz : Int)) = true := by rw [beq_iff_eq]; omega
              have hnH : Hid (nm.length = nz) := hn
              clear hn
              have HV : Hid (R = true) := RR.out.trans (by rw [bokB_2 G.out, DN.out, decide_eq_true htH.out, decide_eq_true hnH.out]; rfl)
              go_wp2_with fail
              go_ret
              exact ⟨ret_b HV.out.symm, N.out.trans (X4.out.alloc _)⟩
            · have hn1 : ((nm.length : Int) == (nz : Int)) = false := by rw [beq_eq_false_iff_ne]; omega
              have HV : Hid (R = false) := RR.out.trans (by rw [bokB_2 G.out, DN.out, decide_eq_true htH.out, decide_eq_false hn]; rfl)
              go_wp2_with fail
              go_ret
              exact ⟨ret_b HV.out.symm, N.out.trans (X4.out.alloc _)⟩
          · have ht1 : ((tlen ts : Int) == (np : Int)) = false := by rw [beq_eq_false_iff_ne]; omega
            have HV : Hid (R = false) := RR.out.trans (by rw [bokB_2 G.out, DN.out, decide_eq_false ht]; rfl)
            go_wp2_with fail
            go_ret
            exact ⟨ret_b HV.out.symm, N.out.trans (X4.out.alloc _)⟩
      by_cases k3 : k = 3
      · subst k3
        by_cases hF : fn.size = 0
        · have f0 : fn.toList.isEmpty = true := empty_size hF
          by_cases ht : tlen ts = 1
          · have ht1 : ((tlen ts : Int) == 1) = true := by rw [beq_iff_eq]; omega
            have htH : Hid (tlen ts = 1) := ht
            clear ht
            by_cases hz : nm.length = tlen tz
            · have hz1 : ((nm.length : Int) == (tlen tz : Int)) = true := by rw [beq_iff_eq]; omega
              have hzH : Hid (nm.length = tlen tz) := hz
              clear hz
              by_cases he : nm.length = tlen ez
              · have he1 : ((nm.length : Int) == (tlen ez : Int)) = true := by rw [beq_iff_eq]; omega
                have heH : Hid (nm.length = tlen ez) := he
                clear he
                have HV : Hid (R = true) := RR.out.trans (by rw [bokB_3, decide_eq_true hF, decide_eq_true htH.out, decide_eq_true hzH.out, decide_eq_true heH.out]; rfl)
                go_wp2_with fail
                go_ret
                exact ⟨ret_b HV.out.symm, N.out.trans X2.out⟩
              · have he1 : ((nm.length : Int) == (tlen ez : Int)) = false := by rw [beq_eq_false_iff_ne]; omega
                have HV : Hid (R = false) := RR.out.trans (by rw [bokB_3, decide_eq_true hF, decide_eq_true htH.out, decide_eq_true hzH.out, decide_eq_false he]; rfl)
                go_wp2_with fail
                go_ret
                exact ⟨ret_b HV.out.symm, N.out.trans X2.out⟩
            · have hz1 : ((nm.length : Int) == (tlen tz : Int)) = false := by rw [beq_eq_false_iff_ne]; omega
              have HV : Hid (R = false) := RR.out.trans (by rw [bokB_3, decide_eq_true hF, decide_eq_true htH.out, decide_eq_false hz]; rfl)
              go_wp2_with fail
              go_ret
              exact ⟨ret_b HV.out.symm, N.out.trans X2.out⟩
          · have ht1 : ((tlen ts : Int) == 1) = false := by rw [beq_eq_false_iff_ne]; omega
            have HV : Hid (R = false) := RR.out.trans (by rw [bokB_3, decide_eq_true hF, decide_eq_false ht]; rfl)
            go_wp2_with fail
            go_ret
            exact ⟨ret_b HV.out.symm, N.out.trans X2.out⟩
        · have f0 : fn.toList.isEmpty = false := full_size hF
          have HV : Hid (R = false) := RR.out.trans (by rw [bokB_3, decide_eq_false hF]; rfl)
          go_wp2_with fail
          go_ret
          exact ⟨ret_b HV.out.symm, N.out.trans X2.out⟩
      have q1 : (k == 1) = false := by rw [beq_eq_false_iff_ne]; exact k1
      have q2 : (k == 2) = false := by rw [beq_eq_false_iff_ne]; exact k2
      have q3 : (k == 3) = false := by rw [beq_eq_false_iff_ne]; exact k3
      have HV : Hid (R = false) := RR.out.trans (bokB_o k1 k2 k3)
      go_wp2_with fail
      go_ret
      exact ⟨ret_b HV.out.symm, N.out.trans X2.out⟩

end Go.Proofs.YtgpdnoghlommeaaGreatDoor

namespace Go.Proofs.YtgpdnoghlommeaaGreatDoor

open Go.RowKit Go.Deep Go.Maps Go.WideMaps

attribute [local go_sem ↓] Go.wp_at_zero Go.wp_at_succ

set_option maxRecDepth 100000 in
set_option maxHeartbeats 2000000 in
theorem ways_by (ea : Addr) (fs : List PM) (la : Option Addr) (lc mb : Nat) (k : Int) (nm : List ByteArray) (nma : Option Addr) (nmc : Nat) (fn : ByteArray) (ts : TM) (tsa : Option Addr) (tsc : Nat) (tb : BD) (tba : Option Addr) (tbc : Nat) (tz : TM) (tza : Option Addr) (tzc : Nat) (eb : BD) (eba : Option Addr) (ebc : Nat) (ez : TM) (eza : Option Addr) (ezc : Nat) (d : Nat) (r1 r2 : Bool) (w : World) (hT : ∀ w', Ex w w' → Calls Tryz.prog 113 #[.agg #[.slice la fs.length lc, .map (some mb)], .agg #[.slice tba (blen tb) tbc, .slice tza (tlen tz) tzc], .int .i64 d] w' (ErrP ea r1 w')) (hE : ∀ w', Ex w w' → Calls Tryz.prog 113 #[.agg #[.slice la fs.length lc, .map (some mb)], .agg #[.slice eba (blen eb) ebc, .slice eza (tlen ez) ezc], .int .i64 d] w' (ErrP ea r2 w')) :
    Calls Tryz.prog 146 #[.agg #[.slice la fs.length lc, .map (some mb)], .agg #[.int .i64 k, .slice nma nm.length nmc, .string fn, .slice tsa (tlen ts) tsc, .slice tba (blen tb) tbc, .slice tza (tlen tz) tzc, .slice eba (blen eb) ebc, .slice eza (tlen ez) ezc], .int .i64 d] w (ErrP ea (r1 && r2) w) := by
  have HT : Hid _ := hT
  have HE : Hid _ := hE
  have N : Hid (Ex w ((w.alloc (.cells #[.slice la fs.length lc, .map (some mb)] 171)).alloc (.cells #[.int .i64 k, .slice nma nm.length nmc, .string fn, .slice tsa (tlen ts) tsc, .slice tba (blen tb) tbc, .slice tza (tlen tz) tzc, .slice eba (blen eb) ebc, .slice eza (tlen ez) ezc] 102))) := (Ex.new _ _).alloc _
  have C : Hid (∀ w', Ex ((w.alloc (.cells #[.slice la fs.length lc, .map (some mb)] 171)).alloc (.cells #[.int .i64 k, .slice nma nm.length nmc, .string fn, .slice tsa (tlen ts) tsc, .slice tba (blen tb) tbc, .slice tza (tlen tz) tzc, .slice eba (blen eb) ebc, .slice eza (tlen ez) ezc] 102)) w' → w'.cell? ⟨w.heap.size, 0, none⟩ = some (.slice la fs.length lc) ∧ w'.cell? ⟨w.heap.size, 1, none⟩ = some (.map (some mb)) ∧ w'.cell? ⟨w.heap.size + 1, 0, none⟩ = some (.int .i64 k) ∧ w'.cell? ⟨w.heap.size + 1, 1, none⟩ = some (.slice nma nm.length nmc) ∧ w'.cell? ⟨w.heap.size + 1, 2, none⟩ = some (.string fn) ∧ w'.cell? ⟨w.heap.size + 1, 3, none⟩ = some (.slice tsa (tlen ts) tsc) ∧ w'.cell? ⟨w.heap.size + 1, 4, none⟩ = some (.slice tba (blen tb) tbc) ∧ w'.cell? ⟨w.heap.size + 1, 5, none⟩ = some (.slice tza (tlen tz) tzc) ∧ w'.cell? ⟨w.heap.size + 1, 6, none⟩ = some (.slice eba (blen eb) ebc) ∧ w'.cell? ⟨w.heap.size + 1, 7, none⟩ = some (.slice eza (tlen ez) ezc)) := fun w' h => ⟨h.at (by simp), h.at (by simp), h.at (by simp), h.at (by simp), h.at (by simp), h.at (by simp), h.at (by simp), h.at (by simp), h.at (by simp), h.at (by simp)⟩
  clear hT hE
  go_enter Tryz.func146, Tryz.ntmps146
  go_wp2_with fail
  refine Calls.mono (HT.out _ N.out) ?_
  rintro e w1 ⟨rfl, hb1⟩
  have X1 : Hid (Ex ((w.alloc (.cells #[.slice la fs.length lc, .map (some mb)] 171)).alloc (.cells #[.int .i64 k, .slice nma nm.length nmc, .string fn, .slice tsa (tlen ts) tsc, .slice tba (blen tb) tbc, .slice tza (tlen tz) tzc, .slice eba (blen eb) ebc, .slice eza (tlen ez) ezc] 102)) w1) := hb1
  obtain ⟨c0, c1, c2, c3, c4, c5, c6, c7, c8, c9⟩ := C.out w1 hb1
  clear hb1 HT
  cases r1 with
  | false =>
    simp only [errV, Bool.false_eq_true, if_false]
    go_wp2_with fail
    go_ret
    exact ⟨rfl, N.out.trans X1.out⟩
  | true =>
    simp only [errV, if_true]
    go_wp2_with fail
    refine Calls.mono (HE.out _ (N.out.trans X1.out)) ?_
    rintro e w2 ⟨rfl, hb2⟩
    go_wp2_with fail
    go_ret
    exact ⟨by cases r2 <;> rfl, N.out.trans (X1.out.trans hb2)⟩

/-- Behind a binding. -/
def BindingP (ea : Addr) (mb : Nat) (ns nm : List ByteArray) (R : Bool) (w : World) (e : Ending) (w' : World) : Prop := e = .returned (errV ea R) ∧ Fr mb w w' ∧ (R = true → CM w' mb (ns ++ nm).length (ns ++ nm))

set_option maxRecDepth 100000 in
set_option maxHeartbeats 4000000 in
theorem binding_by (ea : Addr) (fs : List PM) (la : Option Addr) (lc mb : Nat) (k : Int) (nm : List ByteArray) (nma : Option Addr) (nmc : Nat) (fn : ByteArray) (ts : TM) (tsa : Option Addr) (tsc : Nat) (tb : BD) (tba : Option Addr) (tbc : Nat) (tz : TM) (tza : Option Addr) (tzc : Nat) (eb : BD) (eba : Option Addr) (ebc : Nat) (ez : TM) (eza : Option Addr) (ezc : Nat) (hl : fs.length ≤ 1000000000) (ns : List ByteArray) (hns : ns.length ≤ 900000) (d : Nat) (hd : d ≤ 1000) (rec : List ByteArray → BD → TM → Bool) (w : World) (hG : w.cell? ⟨0, 0, none⟩ = some (EV ea)) (hC : CM w mb ns.length ns) (hQ : QA w 0 fs la)
    (hN : ∀ w', Fr mb w w' → XA w' 0 nm nma) (hz : XLm nm) (hM : MA w 0 ts tsa) (ht : tlen ts ≤ 1000000000) (htm : TSm ts) (htl : TLm ts) (h60 : (arityR fs fn).1 ≤ 60)
    (hT : ∀ w', Ex w w' → Calls Tryz.prog 113 #[.agg #[.slice la fs.length lc, .map (some mb)], .agg #[.slice tba (blen tb) tbc, .slice tza (tlen tz) tzc], .int .i64 d] w' (ErrP ea (rec ns tb tz) w')) (hE : ∀ w', Ex w w' → Calls Tryz.prog 113 #[.agg #[.slice la fs.length lc, .map (some mb)], .agg #[.slice eba (blen eb) ebc, .slice eza (tlen ez) ezc], .int .i64 d] w' (ErrP ea (rec ns eb ez) w')) :
    Calls Tryz.prog 136 #[.agg #[.slice la fs.length lc, .map (some mb)], .agg #[.int .i64 k, .slice nma nm.length nmc, .string fn, .slice tsa (tlen ts) tsc, .slice tba (blen tb) tbc, .slice tza (tlen tz) tzc, .slice eba (blen eb) ebc, .slice eza (tlen ez) ezc], .int .i64 (d + 1 : Nat)] w (BindingP ea mb ns nm (bindB fs rec ns k nm fn ts tb tz eb ez) w) := by
  have G : Hid (∀ w', Ex w w' → w'.cell? ⟨0, 0, none⟩ = some (EV ea)) := fun w' h => h.at hG
  have CC : Hid (∀ w', Ex w w' → CM w' mb ns.length ns) := fun w' h => hC.ex h
  have Q : Hid (∀ w', Ex w w' → QA w' 0 fs la) := fun _ h => QA_below hQ h
  have XN : Hid (∀ w', Fr mb w w' → XA w' 0 nm nma) := hN
  have ZN : Hid (XLm nm) := hz
  have TT : Hid (∀ w', Ex w w' → Calls Tryz.prog 137 #[.agg #[.slice la fs.length lc, .map (some mb)], .slice tsa (tlen ts) tsc, .int .i64 8] w' (ErrP ea (kidsB ns 8 ts) w')) := fun w' h => terms_any ea la fs.length lc mb ns.length ns 8 ts tsa tsc w' (by omega) (h.at hG) (hC.ex h) (MA_below hM h) ht htm htl
  have WW : Hid (∀ w', Ex w w' → Calls Tryz.prog 146 #[.agg #[.slice la fs.length lc, .map (some mb)], .agg #[.int .i64 k, .slice nma nm.length nmc, .string fn, .slice tsa (tlen ts) tsc, .slice tba (blen tb) tbc, .slice tza (tlen tz) tzc, .slice eba (blen eb) ebc, .slice eza (tlen ez) ezc], .int .i64 d] w' (ErrP ea (rec ns tb tz && rec ns eb ez) w')) := fun w' h => ways_by ea fs la lc mb k nm nma nmc fn ts tsa tsc tb tba tbc tz tza tzc eb eba ebc ez eza ezc d _ _ w' (fun w2 h2 => hT w2 (h.trans h2)) (fun w2 h2 => hE w2 (h.trans h2))
  have N : Hid (Ex w ((w.alloc (.cells #[.slice la fs.length lc, .map (some mb)] 171)).alloc (.cells #[.int .i64 k, .slice nma nm.length nmc, .string fn, .slice tsa (tlen ts) tsc, .slice tba (blen tb) tbc, .slice tza (tlen tz) tzc, .slice eba (blen eb) ebc, .slice eza (tlen ez) ezc] 102))) := (Ex.new _ _).alloc _
  have C : Hid (∀ w', Ex ((w.alloc (.cells #[.slice la fs.length lc, .map (some mb)] 171)).alloc (.cells #[.int .i64 k, .slice nma nm.length nmc, .string fn, .slice tsa (tlen ts) tsc, .slice tba (blen tb) tbc, .slice tza (tlen tz) tzc, .slice eba (blen eb) ebc, .slice eza (tlen ez) ezc] 102)) w' → w'.cell? ⟨w.heap.size, 0, none⟩ = some (.slice la fs.length lc) ∧ w'.cell? ⟨w.heap.size, 1, none⟩ = some (.map (some mb)) ∧ w'.cell? ⟨w.heap.size + 1, 0, none⟩ = some (.int .i64 k) ∧ w'.cell? ⟨w.heap.size + 1, 1, none⟩ = some (.slice nma nm.length nmc) ∧ w'.cell? ⟨w.heap.size + 1, 2, none⟩ = some (.string fn) ∧ w'.cell? ⟨w.heap.size + 1, 3, none⟩ = some (.slice tsa (tlen ts) tsc) ∧ w'.cell? ⟨w.heap.size + 1, 4, none⟩ = some (.slice tba (blen tb) tbc) ∧ w'.cell? ⟨w.heap.size + 1, 5, none⟩ = some (.slice tza (tlen tz) tzc) ∧ w'.cell? ⟨w.heap.size + 1, 6, none⟩ = some (.slice eba (blen eb) ebc) ∧ w'.cell? ⟨w.heap.size + 1, 7, none⟩ = some (.slice eza (tlen ez) ezc)) := fun w' h => ⟨h.at (by simp), h.at (by simp), h.at (by simp), h.at (by simp), h.at (by simp), h.at (by simp), h.at (by simp), h.at (by simp), h.at (by simp), h.at (by simp)⟩
  have HR : Hid (bindB fs rec ns k nm fn ts tb tz eb ez = (namesB nm && (bokB fs k nm fn ts tb tz eb ez && (kidsB ns 8 ts && (if k = 3 then rec ns tb tz && rec ns eb ez else true))))) := bind_bok h60
  have L60 : Hid (namesB nm = true → nm.length ≤ 60) := fun h => by simp only [namesB, Bool.and_eq_true, decide_eq_true_eq] at h; exact h.1
  obtain ⟨R, hR⟩ : ∃ R, R = bindB fs rec ns k nm fn ts tb tz eb ez := ⟨_, rfl⟩
  rw [← hR] at HR ⊢
  obtain ⟨bn, hbn⟩ : ∃ b, namesB nm = b := ⟨_, rfl⟩
  obtain ⟨bk, hbk⟩ : ∃ b, bokB fs k nm fn ts tb tz eb ez = b := ⟨_, rfl⟩
  obtain ⟨bt, hbt⟩ : ∃ b, kidsB ns 8 ts = b := ⟨_, rfl⟩
  obtain ⟨bw, hbw⟩ : ∃ b, (rec ns tb tz && rec ns eb ez) = b := ⟨_, rfl⟩
  have NO : Hid (∀ w', Ex w w' → Calls Tryz.prog 111 #[.slice nma nm.length nmc] w' fun e w'' => e = .returned (.bool bn) ∧ Ex w' w'') := fun w' h => by have := namesOk_any nm nma nmc w' ZN.out (XN.out w' (Fr.of_ex h _)); rw [hbn] at this; exact this
  have BO : Hid (∀ w', Ex w w' → Calls Tryz.prog 145 #[.slice la fs.length lc, .agg #[.int .i64 k, .slice nma nm.length nmc, .string fn, .slice tsa (tlen ts) tsc, .slice tba (blen tb) tbc, .slice tza (tlen tz) tzc, .slice eba (blen eb) ebc, .slice eza (tlen ez) ezc]] w' fun e w'' => e = .returned (.bool bk) ∧ Ex w' w'') := fun w' h => by have := bindOk_any fs la lc hl k nm nma nmc fn ts tsa tsc tb tba tbc tz tza tzc eb eba ebc ez eza ezc w' (Q.out w' h); rw [hbk] at this; exact this
  rw [hbn, hbk, hbt, hbw] at HR
  rw [hbn] at L60
  rw [hbt] at TT
  rw [hbw] at WW
  obtain ⟨D, hD⟩ : ∃ D : Int, D = ((d + 1 : Nat) : Int) := ⟨_, rfl⟩
  rw [← hD]
  have d3 : D - 1 = (d : Int) := by omega
  have d4 : IntKind.i64.wrap (D - 1) = (d : Int) := by rw [d3]; exact IntWalk.i64_in _ (by omega)
  have FL : Hid (∀ w', Ex w w' → R = false → BindingP ea mb ns nm R w (.returned (EV ea)) w') := fun w' h hr => ⟨by rw [hr]; rfl, Fr.of_ex h _, fun h2 => by rw [hr] at h2; cases h2⟩
  clear hR hbn hbk hbt hbw hG hC hQ hN hz hM ht htm htl hT hE hD h60 Q
  go_enter Tryz.func136, Tryz.ntmps136
  go_wp2_with fail
  refine (NO.out _ N.out).mono ?_
  rintro e w1 ⟨rfl, hb1⟩
  have X1 : Hid (Ex ((w.alloc (.cells #[.slice la fs.length lc, .map (some mb)] 171)).alloc (.cells #[.int .i64 k, .slice nma nm.length nmc, .string fn, .slice tsa (tlen ts) tsc, .slice tba (blen tb) tbc, .slice tza (tlen tz) tzc, .slice eba (blen eb) ebc, .slice eza (tlen ez) ezc] 102)) w1) := hb1
  obtain ⟨c0, c1, c2, c3, c4, c5, c6, c7, c8, c9⟩ := C.out w1 hb1
  have g0 := G.out w1 (N.out.trans hb1)
  clear hb1 NO
  cases bn with
  | false =>
    have HV : Hid _ := FL.out w1 (N.out.trans X1.out) HR.out
    go_wp2_with fail
    go_ret
    exact HV.out
  | true =>
    go_wp2_with fail
    refine (BO.out _ (N.out.trans X1.out)).mono ?_
    rintro e w2 ⟨rfl, hb2⟩
    have X2 : Hid (Ex ((w.alloc (.cells #[.slice la fs.length lc, .map (some mb)] 171)).alloc (.cells #[.int .i64 k, .slice nma nm.length nmc, .string fn, .slice tsa (tlen ts) tsc, .slice tba (blen tb) tbc, .slice tza (tlen tz) tzc, .slice eba (blen eb) ebc, .slice eza (tlen ez) ezc] 102)) w2) := X1.out.trans hb2
    clear hb2 BO c0 c1 c2 c3 c4 c5 c6 c7 c8 c9 g0
    obtain ⟨c0, c1, c2, c3, c4, c5, c6, c7, c8, c9⟩ := C.out w2 X2.out
    have g0 := G.out w2 (N.out.trans X2.out)
    cases bk with
    | false =>
      have HV : Hid _ := FL.out w2 (N.out.trans X2.out) HR.out
      go_wp2_with fail
      go_ret
      exact HV.out
    | true =>
      go_wp2_with fail
      refine Calls.mono (TT.out _ (N.out.trans X2.out)) ?_
      rintro e w3 ⟨rfl, hb3⟩
      have X3 : Hid (Ex ((w.alloc (.cells #[.slice la fs.length lc, .map (some mb)] 171)).alloc (.cells #[.int .i64 k, .slice nma nm.length nmc, .string fn, .slice tsa (tlen ts) tsc, .slice tba (blen tb) tbc, .slice tza (tlen tz) tzc, .slice eba (blen eb) ebc, .slice eza (tlen ez) ezc] 102)) w3) := X2.out.trans hb3
      clear hb3 TT c0 c1 c2 c3 c4 c5 c6 c7 c8 c9 g0
      obtain ⟨c0, c1, c2, c3, c4, c5, c6, c7, c8, c9⟩ := C.out w3 X3.out
      cases bt with
      | false =>
        have HV : Hid _ := FL.out w3 (N.out.trans X3.out) HR.out
        simp only [errV, Bool.false_eq_true, if_false]
        go_wp2_with fail
        go_ret
        exact HV.out
      | true =>
        simp only [errV, if_true]
        have BI : Hid (∀ w', Ex w w' → Calls Tryz.prog 112 #[.agg #[.slice la fs.length lc, .map (some mb)], .slice nma nm.length nmc] w' (BindP mb ns.length ns nm w')) := fun w' h => by
          have h6 := L60.out (by first | trivial | rfl)
          exact bind_any la fs.length lc mb ns.length ns nm nma nmc w' (CC.out w' h) (fun w2 h2 => XN.out w2 ((Fr.of_ex h _).trans h2)) ZN.out (by omega) (by omega)
        have FT : Hid (∀ w4 w5, Ex w w4 → R = true → CM w5 mb (ns.length + nm.length) (ns ++ nm) → Fr mb w4 w5 → BindingP ea mb ns nm R w (.returned .nilIface) w5) := fun w4 w5 h hr hc hf => ⟨by rw [hr]; rfl, (Fr.of_ex h _).trans hf, fun _ => by rw [List.length_append]; exact hc⟩
        clear CC XN ZN L60
        by_cases k3 : k = 3
        · have q3 : (k == 3) = true := by rw [beq_iff_eq]; exact k3
          have HW : Hid (R = bw) := HR.out.trans (by rw [if_pos k3]; rfl)
          have K3 : Hid (k = 3) := k3
          clear k3 HR
          go_wp2_with fail
          refine Calls.mono (WW.out _ (N.out.trans X3.out)) ?_
          rintro e w4 ⟨rfl, hb4⟩
          have X4 : Hid (Ex ((w.alloc (.cells #[.slice la fs.length lc, .map (some mb)] 171)).alloc (.cells #[.int .i64 k, .slice nma nm.length nmc, .string fn, .slice tsa (tlen ts) tsc, .slice tba (blen tb) tbc, .slice tza (tlen tz) tzc, .slice eba (blen eb) ebc, .slice eza (tlen ez) ezc] 102)) w4) := X3.out.trans hb4
          clear hb4 WW c0 c1 c2 c3 c4 c5 c6 c7 c8 c9
          obtain ⟨c0, c1, c2, c3, c4, c5, c6, c7, c8, c9⟩ := C.out w4 X4.out
          cases bw with
          | false =>
            have HV : Hid _ := FL.out w4 (N.out.trans X4.out) HW.out
            simp only [errV, Bool.false_eq_true, if_false]
            go_wp2_with fail
            go_ret
            exact HV.out
          | true =>
            simp only [errV, if_true]
            go_wp2_with fail
            refine Calls.mono (BI.out _ (N.out.trans X4.out)) ?_
            rintro e w5 ⟨rfl, hc5, hf5⟩
            have HV : Hid _ := FT.out w4 w5 (N.out.trans X4.out) HW.out hc5 hf5
            clear hc5 hf5
            go_wp2_with fail
            go_ret
            exact HV.out
        · have q3 : (k == 3) = false := by rw [beq_eq_false_iff_ne]; exact k3
          have HW : Hid (R = true) := HR.out.trans (by rw [if_neg k3]; rfl)
          clear HR
          go_wp2_with fail
          refine Calls.mono (BI.out _ (N.out.trans X3.out)) ?_
          rintro e w5 ⟨rfl, hc5, hf5⟩
          have HV : Hid _ := FT.out w3 w5 (N.out.trans X3.out) HW.out hc5 hf5
          clear hc5 hf5
          go_wp2_with fail
          go_ret
          exact HV.out

end Go.Proofs.YtgpdnoghlommeaaGreatDoor
