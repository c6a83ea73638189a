/- Walks: what terms say, by the program. Walks: what names stand for, and what numbers make, by the specification. Walks: what terms say, by the specification: the loop. Walks: what a term says, by the program. -/
import Derived.Test.YtldbmlojgakieaaGreatDoorGPR2
import Derived.Deep.AppendLies
namespace Go.Proofs.YtldbmlojgakieaaGreatDoor

open Go.RowKit Go.Deep Go.Maps Go.WideMaps

attribute [local go_sem ↓] Go.wp_at_zero Go.wp_at_succ

/-- A list of values in a row that the call owns; what is behind them lies in S or in new blocks, but not in the row's own. -/
def VR (w : World) (base : Nat) (S : Nat → Prop) (v : Value) (l : F) : Prop := ∃ cs, w.ownsRow base 55 2 v (len l) cs ∧
  ∀ j, j < len l → cs[j * 2]? = some (.int .i64 (num l j)) ∧ ∃ a' c', cs[j * 2 + 1]? = some (.slice a' (len (kid l j)) c') ∧ VS w (fun b => (S b ∨ base ≤ b) ∧ v.ownBlock ≠ some b) (kid l j) a'
theorem VR.nil (w : World) (base : Nat) (S : Nat → Prop) : VR w base S (.slice none 0 0) .nil := ⟨[], World.ownsRow_nil _ _ _ _, fun _ hj => absurd hj (Nat.not_lt_zero _)⟩
theorem VR.ex {w w' : World} {base : Nat} {S : Nat → Prop} {v : Value} {l : F} (h : VR w base S v l) (hx : Ex w w') : VR w' base S v l := by
  obtain ⟨cs, h1, h2⟩ := h
  exact ⟨cs, owns_ex h1 hx, fun j hj => by
    obtain ⟨e, a', c', e2, hV⟩ := h2 j hj
    exact ⟨e, a', c', e2, VS_ex hV hx⟩⟩
theorem VR.own {w : World} {base : Nat} {S : Nat → Prop} {v : Value} {l : F} (h : VR w base S v l) : ∀ g, v.ownBlock = some g → base ≤ g ∧ g < w.heap.size := by
  obtain ⟨cs, h1, _⟩ := h
  exact fun g hg => h1.lt g hg
theorem VR.vs {w : World} {base : Nat} {S : Nat → Prop} {v : Value} {l : F} (h : VR w base S v l) : ∃ a c, v = .slice a (len l) c ∧ VS w (fun b => S b ∨ base ≤ b) l a := by
  obtain ⟨cs, h1, h2⟩ := h
  have hc := fun g (hg : v.ownBlock = some g) => h1.cells hg
  obtain ⟨_, ⟨rfl, h0⟩ | ⟨g, cap, cur, rfl, hb, _⟩⟩ := id h1
  · exact ⟨none, 0, by rw [h0], Or.inl h0⟩
  · refine ⟨some ⟨g, 0, none⟩, cap, rfl, VS_mk (Or.inr hb) fun i hi => ?_⟩
    obtain ⟨e, a', c', e2, hV⟩ := h2 i hi
    have k0 := hc g rfl _ _ e
    have k1 := hc g rfl _ _ e2
    rw [Go.WideShapes.add_plain] at k0 k1
    exact ⟨k0, a', c', by rw [Nat.add_assoc]; exact k1, VS_mono hV fun b _ hs => hs.1⟩

set_option maxRecDepth 100000 in
/-- A value put behind such a list: an operation of an ordered list. -/
theorem wpList_append_val {w : World} {ops : Array Oper} {rest : List Oper} {o : Oper} {a : Act} {Q : Exit → Act → World → Prop} (hgd : o.guard = none) (s x : Operand)
    (ho : o.op = .call { callee := .builtin .append, args := #[s, x], argTypes := #[26, 26] })
    (w0 : World) (hE : Ex w0 w) (S : Nat → Prop) (base : Nat) (hb : w0.heap.size ≤ base) (hbw : base ≤ w.heap.size) (v : Value) (l : F) (hs : a.eval s = v) (hR : VR w base S v l)
    (b pc : Nat) (u : Int) (f : F) (ad : Option Addr) (c : Nat) (hx : a.eval x = .slice (some ⟨b, 0, none⟩) 1 pc) (hc0 : w.cell? ⟨b, 0, none⟩ = some (.int .i64 u)) (hc1 : w.cell? ⟨b, 1, none⟩ = some (.slice ad (len f) c))
    (hV : VS w (fun b => (S b ∨ base ≤ b) ∧ v.ownBlock ≠ some b) f ad) (h63 : len l ≤ 100000000)
    (h : ∀ av cap w', VR w' base S (.slice av (len l + 1) cap) (snoc l u f) → Ex w0 w' → wpList Tryz.prog ops Q rest (a.put o.dst (.slice av (len l + 1) cap)) w') :
    wpList Tryz.prog ops Q (o :: rest) a w := by
  obtain ⟨cs, h1, h2⟩ := hR
  obtain ⟨i0, hi, hz0, hz1, hz2⟩ := info_parts Tryz.info55
  have hlen : cs.length = len l * 2 := h1.1
  refine wpList_append_lies w hgd s x 26 ho base 55 i0 _ 2 32 Tryz.underlying26 hi hz0 hz1 hz2 rfl (by omega) v (len l) cs hs h1 ⟨b, 0, none⟩ 1 pc [.int .i64 u, .slice ad (len f) c] hx rfl ?_ ?_ (by omega) (by unfold maxLen; omega) (by omega) hbw w.heap.size rfl ?_
  · intro j q hq
    match j, hq with
    | 0, hq => simp at hq; subst hq; rw [Go.WideShapes.add_plain]; exact hc0
    | 1, hq => simp at hq; subst hq; rw [Go.WideShapes.add_plain]; exact hc1
  · simp [Value.oneCell']
  · intro g cap w' hown hgrow hat hlt
    have hr := fun k (hk : v.ownBlock = some k) => (h1.lt k hk).1
    have mv : ∀ (k : F) (a' : Option Addr), VS w (fun b => (S b ∨ base ≤ b) ∧ v.ownBlock ≠ some b) k a' → VS w' (fun b => (S b ∨ base ≤ b) ∧ (Value.slice (some ⟨g, 0, none⟩) (len l + 1) cap).ownBlock ≠ some b) k a' := by
      intro k a' hk
      have q1 := VS_mono (S' := fun b => ((S b ∨ base ≤ b) ∧ v.ownBlock ≠ some b) ∧ b < w.heap.size) hk fun b hb hs => ⟨hs, hb⟩
      refine VS_mono (VS_ks q1 fun b hs hl => hgrow.block b hl (fun e => hs.1.2 e.symm)) fun b _ hs => ⟨hs.1.1, fun e => ?_⟩
      have e' : g = b := by simpa [Value.ownBlock] using e
      rcases hat with h | h
      · exact hs.1.2 (by rw [h, e'])
      · have := hs.2; omega
    refine h (some ⟨g, 0, none⟩) cap w' ⟨_, by rw [len_snoc]; exact hown, fun j hj => ?_⟩ ⟨hgrow.os.trans hE.os, hgrow.tape.trans hE.tape, hgrow.output.trans hE.output, Nat.le_trans hE.size hgrow.size, fun k hk => (hgrow.block k (Nat.lt_of_lt_of_le hk hE.size) (fun e => by have := hr k e.symm; omega)).trans (hE.block k hk)⟩
    rw [len_snoc] at hj
    rw [num_snoc, kid_snoc]
    by_cases e : j < len l
    · rw [if_pos e, if_pos e]
      obtain ⟨e1, a', c', e2, hk⟩ := h2 j e
      exact ⟨by rw [List.getElem?_append_left (by omega)]; exact e1, a', c', by rw [List.getElem?_append_left (by omega)]; exact e2, mv _ _ hk⟩
    · have ej : j = len l := by omega
      rw [if_neg e, if_neg e, if_pos ej, if_pos ej]
      exact ⟨by rw [List.getElem?_append_right (by omega)]; simp [hlen, ej], ad, c, by rw [List.getElem?_append_right (by omega)]; simp [hlen, ej], mv _ _ hV⟩

/-- A list of values, or the fault that something fails. -/
def RowP (eb : Addr) (S : Nat → Prop) (R : Option F) (w : World) (e : Ending) (w' : World) : Prop :=
  ∃ a' c', e = .returned (.tuple #[.slice a' (len (R.getD .nil)) c', errV eb R.isSome]) ∧ VS w' (fun b => S b ∨ w.heap.size ≤ b) (R.getD .nil) a' ∧ Ex w w'

set_option maxRecDepth 100000 in
set_option maxHeartbeats 4000000 in
theorem veach_by (eb : Addr) (S : Nat → Prop) (L : ByteArray → Int × F) (la : Option Addr) (ll lc mb : Nat) (f : TM) (a : Option Addr) (c : Nat) (w : World) (hM : MA w 0 f a) (hl : tlen f ≤ 100000000) (hS : ∀ b, S b → b < w.heap.size)
    (hK : ∀ j, j < tlen f → ∀ (pa : Option Addr) (pc : Nat) (a' : Option Addr) (c' : Nat) (w' : World), Ex w w' → PA w' 0 (tpath f j) pa → (tpath f j).length ≤ pc ∧ pc ≤ 9223372036854775807 → MA w' 0 (tkid f j) a' → Calls Tryz.prog 123 #[.agg #[.slice la ll lc, .map (some mb)], .agg #[.int .i64 (tkind f j), .int .i64 (tnum f j), .string (tname f j), .slice pa (tpath f j).length pc, .slice a' (tlen (tkid f j)) c']] w' (ValP eb S (evAt L f j) w')) :
    Calls Tryz.prog 122 #[.slice a (tlen f) c, .func (.func 123) #[.agg #[.slice la ll lc, .map (some mb)]] #[]] w (RowP eb S (evL L f) w) := by
  have M : Hid (∀ w', Ex w w' → MA w' 0 f a) := fun _ h => MA_below hM h
  have I : Hid _ := hK
  have HS : Hid (∀ b, S b → b < w.heap.size) := hS
  have HLN : Hid (tlen f ≤ 100000000) := hl
  clear hM hK hS
  obtain ⟨R, hR⟩ : ∃ R, R = evL L f := ⟨_, rfl⟩
  have RR : Hid (R = evL L f) := hR
  rw [← hR]
  clear hR
  go_enter Tryz.func122, Tryz.ntmps122
  go_wp2_with fail
  go_loopw [6, 8, 9, 10, 13] (fun ov _ _ _ i wr => ∃ (j : Nat) (l : F), j ≤ tlen f ∧ i = .int .i64 j ∧ evP L f j = some l ∧ len l = j ∧ VR wr w.heap.size S ov l ∧ Ex w wr) (fun _ _ _ _ i _ => tlen f - (intOf i).toNat)
  case atStart => exact ⟨0, .nil, by omega, rfl, rfl, rfl, VR.nil _ _ _, Ex.refl _⟩
  case round =>
    obtain ⟨j, l, hj, rfl, hev, hlen, hvr, hx⟩ := hrel
    have EVP : Hid (evP L f j = some l) := hev
    have LJ : Hid (len l = j) := hlen
    have E : Hid (Ex w wr) := hx
    obtain ⟨av, ac, rfl, hvs⟩ := hvr.vs
    have VV : Hid (VS wr (fun b => S b ∨ w.heap.size ≤ b) l av) := hvs
    have O : Hid (VR wr w.heap.size S (.slice av (len l) ac) l) := hvr
    clear hx hev hvr hlen hvs
    by_cases hlt : j < tlen f
    · obtain ⟨b, o, rfl, _, hbs, hk⟩ := MA_at (M.out wr E.out) (by omega)
      obtain ⟨e0, e1, e2, ⟨pa, pc, e3, hp'⟩, a', c', e4, hm'⟩ := hk j hlt
      have HI : Hid (∀ w', Ex wr w' → Calls Tryz.prog 123 #[.agg #[.slice la ll lc, .map (some mb)], .agg #[.int .i64 (tkind f j), .int .i64 (tnum f j), .string (tname f j), .slice pa (tpath f j).length pc, .slice a' (tlen (tkid f j)) c']] w' (ValP eb S (evAt L f j) w')) := fun w' h => I.out j hlt pa pc a' c' w' (E.out.trans h) (PA_below (PS_pa.1 hp'.1) h) hp'.2 (MA_below hm' h)
      have V : Hid (evAt L f j = none → R = none) := fun h => RR.out.trans (evL_none hlt h)
      clear hk hp' hm'
      go_wp2_with fail
      refine Calls.mono (HI.out _ (Ex.new _ _)) ?_
      rintro e w1 ⟨a1, c1', rfl, hV1, hb1⟩
      have E1 : Hid (Ex wr w1) := (Ex.new _ _).trans hb1
      have X1 : Hid (Ex w w1) := E.out.trans E1.out
      clear hb1 HI
      cases hkb : evAt L f j with
      | none =>
        have HR : Hid (R = none) := V.out hkb
        clear hkb hV1
        simp only [v0, Option.getD_none, Option.isSome_none, errV, Bool.false_eq_true, if_false]
        go_wp2_with fail
        exact bodyPost_ret (v := .tuple #[.slice none 0 0, EV eb]) (by simp [results, Tryz.results122, go_sem]) rfl ⟨none, 0, by rw [HR.out]; rfl, by rw [HR.out]; exact Or.inl rfl, X1.out.trans (Ex.new _ _)⟩
      | some u =>
        obtain ⟨u, g⟩ := u
        rw [hkb] at hV1
        simp only [v0, Option.getD_some] at hV1
        have V1 : Hid (VS w1 (fun b => S b ∨ (wr.alloc (.cells #[.int .i64 (tkind f j), .int .i64 (tnum f j), .string (tname f j), .slice pa (tpath f j).length pc, .slice a' (tlen (tkid f j)) c'] 121)).heap.size ≤ b) g a1) := hV1
        have EV1 : Hid (evAt L f j = some (u, g)) := hkb
        clear hkb hV1
        simp only [v0, Option.getD_some, Option.isSome_some, errV, if_true]
        have E2 : Hid (Ex w ((w1.alloc (.cells #[.int .i64 u, .slice a1 (len g) c1'] 55)).alloc (.cells #[.int .i64 u, .slice a1 (len g) c1'] 55))) := (X1.out.alloc _).alloc _
        have O3 : Hid (VR ((w1.alloc (.cells #[.int .i64 u, .slice a1 (len g) c1'] 55)).alloc (.cells #[.int .i64 u, .slice a1 (len g) c1'] 55)) w.heap.size S (.slice av (len l) ac) l) := VR.ex O.out ((E1.out.alloc _).alloc _)
        have C20 : Hid (((w1.alloc (.cells #[.int .i64 u, .slice a1 (len g) c1'] 55)).alloc (.cells #[.int .i64 u, .slice a1 (len g) c1'] 55)).cell? ⟨w1.heap.size + 1, 0, none⟩ = some (.int .i64 u)) := by show _ = _; simp
        have C21 : Hid (((w1.alloc (.cells #[.int .i64 u, .slice a1 (len g) c1'] 55)).alloc (.cells #[.int .i64 u, .slice a1 (len g) c1'] 55)).cell? ⟨w1.heap.size + 1, 1, none⟩ = some (.slice a1 (len g) c1')) := by show _ = _; simp
        have V3 : Hid (VS ((w1.alloc (.cells #[.int .i64 u, .slice a1 (len g) c1'] 55)).alloc (.cells #[.int .i64 u, .slice a1 (len g) c1'] 55)) (fun b => (S b ∨ w.heap.size ≤ b) ∧ (Value.slice av (len l) ac).ownBlock ≠ some b) g a1) := VS_mono (VS_ex V1.out ((Ex.new _ _).alloc _)) fun b _ hb => by
          have ho := VR.own O.out
          have hz := E.out.size
          rcases hb with hb | hb
          · exact ⟨Or.inl hb, fun e => by have := (ho b e).1; have := HS.out b hb; omega⟩
          · rw [World.size_alloc] at hb
            exact ⟨Or.inr (by omega), fun e => by have := (ho b e).2; omega⟩
        have j6 : len l ≤ 100000000 := by have := LJ.out; omega
        have EV2 : Hid (evP L f (j + 1) = some (snoc l u g)) := evP_snoc EVP.out EV1.out
        clear O E V1 EV1 EVP VV
        go_wp2_with (at_builtin; refine wpList_append_val rfl _ _ rfl w E2.out S w.heap.size (Nat.le_refl _) E2.out.size (.slice av (len l) ac) l rfl O3.out (w1.heap.size + 1) 1 u g a1 c1' rfl C20.out C21.out V3.out j6 ?_)
        intro av3 ac3 w3 hown3 hx3
        have O4 : Hid (VR w3 w.heap.size S (.slice av3 (len l + 1) ac3) (snoc l u g)) := hown3
        have E3 : Hid (Ex w w3) := hx3
        clear hown3 hx3 O3 E2 C20 C21 V3
        go_wp2_with fail
        go_roundw
        case rel => exact ⟨j + 1, _, by omega, by go_num, EV2.out, by rw [len_snoc, LJ.out], O4.out, E3.out⟩
        case measure => simp [intOf]; omega
    · have hje : j = tlen f := by omega
      have HR : Hid (R = some l) := by
        show _ = _
        rw [RR.out, ← evP_all, ← hje]; exact EVP.out
      go_wp2_with fail
      exact bodyPost_ret (v := .tuple #[.slice av (len l) ac, .nilIface]) (by simp [results, Tryz.results122, go_sem]) rfl ⟨av, ac, by rw [HR.out]; rfl, by rw [HR.out]; exact VV.out, E.out⟩


set_option maxRecDepth 100000 in
set_option maxHeartbeats 2000000 in
theorem nterms_by (eb : Addr) (S : Nat → Prop) (L : ByteArray → Int × F) (la : Option Addr) (ll lc mb : Nat) (f : TM) (a : Option Addr) (c : Nat) (w : World) (hM : MA w 0 f a) (hl : tlen f ≤ 100000000) (hS : ∀ b, S b → b < w.heap.size)
    (hK : ∀ j, j < tlen f → ∀ (pa : Option Addr) (pc : Nat) (a' : Option Addr) (c' : Nat) (w' : World), Ex w w' → PA w' 0 (tpath f j) pa → (tpath f j).length ≤ pc ∧ pc ≤ 9223372036854775807 → MA w' 0 (tkid f j) a' → Calls Tryz.prog 123 #[.agg #[.slice la ll lc, .map (some mb)], .agg #[.int .i64 (tkind f j), .int .i64 (tnum f j), .string (tname f j), .slice pa (tpath f j).length pc, .slice a' (tlen (tkid f j)) c']] w' (ValP eb S (evAt L f j) w')) :
    Calls Tryz.prog 104 #[.agg #[.slice la ll lc, .map (some mb)], .slice a (tlen f) c] w (RowP eb S (evL L f) w) := by
  have N : Hid (Ex w (w.alloc (.cells #[.slice la ll lc, .map (some mb)] 137))) := Ex.new _ _
  have K : Hid (Calls Tryz.prog 122 #[.slice a (tlen f) c, .func (.func 123) #[.agg #[.slice la ll lc, .map (some mb)]] #[]] (w.alloc (.cells #[.slice la ll lc, .map (some mb)] 137)) (RowP eb S (evL L f) (w.alloc (.cells #[.slice la ll lc, .map (some mb)] 137)))) := veach_by eb S L la ll lc mb f a c _ (MA_below hM (Ex.new _ _)) hl (fun b hb => Nat.lt_of_lt_of_le (hS b hb) (Ex.new _ _).size) fun j hj pa pc a' c' w' hx => hK j hj pa pc a' c' w' (N.out.trans hx)
  have h0 : (w.alloc (.cells #[.slice la ll lc, .map (some mb)] 137)).cell? ⟨w.heap.size, 0, none⟩ = some (.slice la ll lc) := by simp
  have h1 : (w.alloc (.cells #[.slice la ll lc, .map (some mb)] 137)).cell? ⟨w.heap.size, 1, none⟩ = some (.map (some mb)) := by simp
  clear hM hK hS
  obtain ⟨R, hR⟩ : ∃ R, R = evL L f := ⟨_, rfl⟩
  rw [← hR] at K ⊢
  clear hR
  go_enter Tryz.func104, Tryz.ntmps104
  go_wp2_with fail
  refine Calls.mono K.out ?_
  rintro e w1 ⟨a1, c1', rfl, hV1, hb1⟩
  have V1 : Hid _ := hV1
  have X1 : Hid (Ex (w.alloc (.cells #[.slice la ll lc, .map (some mb)] 137)) w1) := hb1
  clear hV1 hb1 h0 h1
  go_wp2_with fail
  refine bodyPost_ret (v := .tuple #[.slice a1 (len (R.getD .nil)) c1', errV eb R.isSome]) (by simp [results, Tryz.results104, go_sem]) rfl ⟨a1, c1', rfl, ?_, N.out.trans X1.out⟩
  refine VS_mono V1.out fun b _ hb => ?_
  rcases hb with hb | hb
  · exact Or.inl hb
  · have := N.out.size; exact Or.inr (by omega)

end Go.Proofs.YtldbmlojgakieaaGreatDoor

namespace Go.Proofs.YtldbmlojgakieaaGreatDoor

open Go.RowKit Go.Deep Go.Maps Go.WideMaps

attribute [local go_sem ↓] Go.wp_at_zero Go.wp_at_succ

/-- What two numbers make, and whether they can. -/
def opN (k n m : Int) : Int × Bool := if k = 3 then (n + m, decide (n + m ≤ 9999)) else if k = 4 then (n - m, decide (m ≤ n)) else (if n < m then 1 else 0, true)
theorem opN_less {k n m : Int} (h3 : ¬ k = 3) (h4 : ¬ k = 4) : opN k n m = (if n < m then 1 else 0, true) := by unfold opN; rw [if_neg h3, if_neg h4]

set_option maxRecDepth 100000 in
set_option maxHeartbeats 2000000 in
theorem l11Op_any (k n m : Int) (w : World) (hn : 0 ≤ n ∧ n ≤ 9999) (hm : 0 ≤ m ∧ m ≤ 9999) :
    Calls Tryz.prog 95 #[.int .i64 k, .int .i64 n, .int .i64 m] w fun e w' => e = .returned (.tuple #[.int .i64 (opN k n m).1, .bool (opN k n m).2]) ∧ Ex w w' := by
  have hn0 := hn.1
  have hn1 := hn.2
  have hm0 := hm.1
  have hm1 := hm.2
  clear hn hm
  by_cases k3 : k = 3
  · subst k3
    go_enter Tryz.func95, Tryz.ntmps95
    go_wp2_with fail
    exact bodyPost_ret (v := .tuple #[.int .i64 (n + m), .bool (decide (n + m ≤ 9999))]) (by simp [results, Tryz.results95, go_sem]) rfl ⟨rfl, Ex.refl _⟩
  by_cases k4 : k = 4
  · subst k4
    go_enter Tryz.func95, Tryz.ntmps95
    go_wp2_with fail
    exact bodyPost_ret (v := .tuple #[.int .i64 (n - m), .bool (decide (m ≤ n))]) (by simp [results, Tryz.results95, go_sem]) rfl ⟨rfl, Ex.refl _⟩
  have q3 : (k == 3) = false := by rw [beq_eq_false_iff_ne]; exact k3
  have q4 : (k == 4) = false := by rw [beq_eq_false_iff_ne]; exact k4
  have RV : Hid (opN k n m = (if n < m then 1 else 0, true)) := opN_less k3 k4
  obtain ⟨R, hR⟩ : ∃ R, R = opN k n m := ⟨_, rfl⟩
  rw [← hR] at RV ⊢
  clear hR
  by_cases h : n < m
  · have RW : Hid (R = (1, true)) := by have := RV.out; rw [if_pos h] at this; exact this
    have hd : decide (n < m) = true := decide_eq_true h
    go_enter Tryz.func95, Tryz.ntmps95
    go_wp2_with fail
    exact bodyPost_ret (v := .tuple #[.int .i64 1, .bool true]) (by simp [results, Tryz.results95, go_sem]) rfl ⟨by rw [RW.out], Ex.refl _⟩
  · have RW : Hid (R = (0, true)) := by have := RV.out; rw [if_neg h] at this; exact this
    have hd : decide (n < m) = false := decide_eq_false h
    go_enter Tryz.func95, Tryz.ntmps95
    go_wp2_with fail
    exact bodyPost_ret (v := .tuple #[.int .i64 0, .bool true]) (by simp [results, Tryz.results95, go_sem]) rfl ⟨by rw [RW.out], Ex.refl _⟩

/-- What a name stands for by the first names and values: the last one counts. -/
def getE (ns : List ByteArray) (vs : F) (s : ByteArray) : Nat → Int × F
  | 0 => (0, .nil)
  | i + 1 => if ((ns.getD i ⟨#[]⟩).toList == s.toList) = true then (num vs i, kid vs i) else getE ns vs s i
theorem getE_yes {ns : List ByteArray} {vs : F} {s : ByteArray} {i : Nat} (h : ((ns.getD i ⟨#[]⟩).toList == s.toList) = true) : getE ns vs s (i + 1) = (num vs i, kid vs i) := by rw [getE, if_pos h]
theorem getE_no {ns : List ByteArray} {vs : F} {s : ByteArray} {i : Nat} (h : ((ns.getD i ⟨#[]⟩).toList == s.toList) = false) : getE ns vs s (i + 1) = getE ns vs s i := by rw [getE, if_neg (by rw [h]; simp)]

/-- A list of values whose own row lies in T, and all else in S. -/
def VTop (w : World) (T S : Nat → Prop) (f : F) (a : Option Addr) : Prop := len f = 0 ∨ ∃ b o, a = some ⟨b, o, none⟩ ∧ T b ∧ b < w.heap.size ∧ ∀ i, i < len f → w.cell? ⟨b, o + i * 2, none⟩ = some (.int .i64 (num f i)) ∧ ∃ a' cap, w.cell? ⟨b, o + i * 2 + 1, none⟩ = some (.slice a' (len (kid f i)) cap) ∧ VS w S (kid f i) a'
theorem VTop_at {w : World} {T S : Nat → Prop} {f : F} {a : Option Addr} (h : VTop w T S f a) (h0 : 0 < len f) : ∃ b o, a = some ⟨b, o, none⟩ ∧ T b ∧ b < w.heap.size ∧ ∀ i, i < len f → w.cell? ⟨b, o + i * 2, none⟩ = some (.int .i64 (num f i)) ∧ ∃ a' cap, w.cell? ⟨b, o + i * 2 + 1, none⟩ = some (.slice a' (len (kid f i)) cap) ∧ VS w S (kid f i) a' := by
  rcases h with h | h
  · omega
  · exact h
theorem VTop_ex {w w' : World} {T S : Nat → Prop} {f : F} {a : Option Addr} (h : VTop w T S f a) (hx : Ex w w') : VTop w' T S f a := by
  rcases h with h | ⟨b, o, e, hT, hb, hk⟩
  · exact Or.inl h
  · refine Or.inr ⟨b, o, e, hT, Nat.lt_of_lt_of_le hb hx.size, fun i hi => ?_⟩
    obtain ⟨h1, a', c', h2, h3⟩ := hk i hi
    exact ⟨hx.at h1, a', c', hx.at h2, VS_ex h3 hx⟩
theorem VTop_fr {w w' : World} {B : Nat} {T S : Nat → Prop} {f : F} {a : Option Addr} (h : VTop w T S f a) (hx : Fr B w w') (hT : ¬ T B) (hS : ¬ S B) : VTop w' T S f a := by
  rcases h with h | ⟨b, o, e, hTb, hb, hk⟩
  · exact Or.inl h
  · have hne : b ≠ B := fun e => hT (e ▸ hTb)
    refine Or.inr ⟨b, o, e, hTb, Nat.lt_of_lt_of_le hb hx.size, fun i hi => ?_⟩
    obtain ⟨h1, a', c', h2, h3⟩ := hk i hi
    exact ⟨hx.at hne h1, a', c', hx.at hne h2, VS_ks h3 fun b hs hlt => hx.block b hlt fun e => hS (e ▸ hs)⟩

/-- A value of the memory that is given. -/
def GetP (S : Nat → Prop) (R : Int × F) (w : World) (e : Ending) (w' : World) : Prop := ∃ a' c', e = .returned (.agg #[.int .i64 R.1, .slice a' (len R.2) c']) ∧ VS w' S R.2 a' ∧ Ex w w'

set_option maxRecDepth 100000 in
set_option maxHeartbeats 2000000 in
theorem get_any (B : Nat) (T S : Nat → Prop) (ns : List ByteArray) (vs : F) (na va : Option Addr) (nc vc : Nat) (s : ByteArray) (w : World) (hl : ns.length ≤ 1000000000) (hlen : len vs = ns.length) (hS : ∀ b, S b → b < w.heap.size)
    (h1 : w.cell? ⟨B, 1, none⟩ = some (.slice na ns.length nc)) (h2 : w.cell? ⟨B, 2, none⟩ = some (.slice va (len vs) vc)) (hX : XA w 0 ns na) (hV : VTop w T S vs va) :
    Calls Tryz.prog 92 #[.pointer (some ⟨B, 0, none⟩), .string s] w (GetP S (getE ns vs s ns.length) w) := by
  have X : Hid (∀ w', Ex w w' → XA w' 0 ns na) := fun _ h => XA_below hX h
  have V : Hid (∀ w', Ex w w' → VTop w' T S vs va) := fun _ h => VTop_ex hV h
  have HS : Hid (∀ b, S b → b < w.heap.size) := hS
  have HL : Hid (len vs = ns.length) := hlen
  have CB : Hid (∀ w', Ex w w' → w'.cell? ⟨B, 1, none⟩ = some (.slice na ns.length nc) ∧ w'.cell? ⟨B, 2, none⟩ = some (.slice va (len vs) vc)) := fun w' h => ⟨h.at h1, h.at h2⟩
  have N : Hid (Ex w (w.alloc (.cells #[.int .i64 0, .slice none 0 0] 55))) := Ex.new _ _
  have zb : B < w.heap.size := World.block_lt_of_cell? _ _ h1
  have g1 := (Ex.new w (.cells #[.int .i64 0, .slice none 0 0] 55)).at h1
  obtain ⟨R, hR⟩ : ∃ R, R = getE ns vs s ns.length := ⟨_, rfl⟩
  have RR : Hid (R = getE ns vs s ns.length) := hR
  rw [← hR]
  clear hX hV hS hlen hR h1 h2
  go_enter Tryz.func92, Tryz.ntmps92
  go_wp2_with fail
  go_loopw [5] (fun i wr => ∃ (j : Nat) (x : Int), j ≤ ns.length ∧ x = (j : Int) - 1 ∧ i = .int .i64 x ∧ R = getE ns vs s j ∧ Ex (w.alloc (.cells #[.int .i64 0, .slice none 0 0] 55)) wr) (fun i _ => (intOf i + 1).toNat)
  case atStart => exact ⟨ns.length, _, Nat.le_refl _, rfl, by go_num, RR.out, Ex.refl _⟩
  case round =>
    obtain ⟨j, x, hj, hx, rfl, hr, hex⟩ := hrel
    have XJ : Hid (x = (j : Int) - 1) := hx
    have RJ : Hid (R = getE ns vs s j) := hr
    have E : Hid (Ex (w.alloc (.cells #[.int .i64 0, .slice none 0 0] 55)) wr) := hex
    have J : Hid (j ≤ ns.length) := hj
    have hob : wr.heap[w.heap.size]? = some (.cells #[.int .i64 0, .slice none 0 0] 55 (0, 0)) := hex.blk (heap_alloc_at _ _ (by simp))
    have r0 := two_cell0 hob
    have r1 := two_cell1 hob
    have r2 := two_free (i := 0) hob
    have r3 := two_free (i := 1) hob
    have OB : Hid _ := hob
    obtain ⟨p1, p2⟩ := CB.out wr (N.out.trans E.out)
    cases j with
    | zero =>
      have hx1 : x = -1 := by omega
      clear hx hr hex hj hob XJ
      subst hx1
      have HR : Hid (R = (0, .nil)) := RJ.out
      go_wp2_with fail
      have hb3 := two_set (u' := .int .i64 0) (v' := .slice none 0 0) OB.out
      have s0 := two_cell0 hb3
      have s1 := two_cell1 hb3
      refine bodyPost_ret (v := .agg #[.int .i64 0, .slice none 0 0]) (by simp [results, Tryz.results92, go_sem, s0, s1]) rfl ?_
      rw [HR.out]
      exact ⟨none, 0, rfl, Or.inl rfl, ((N.out.trans E.out).set (by exact Nat.le_refl _) _).set (by exact Nat.le_refl _) _⟩
    | succ j =>
      have hxj : x = (j : Int) := by omega
      clear hx hr hex hob XJ
      subst hxj
      obtain ⟨b, o, rfl, hbs, _, hc⟩ := XA_at (X.out wr (N.out.trans E.out)) (by omega)
      have ck := hc j (by omega)
      obtain ⟨b', o', rfl, _, _, hk⟩ := VTop_at (V.out wr (N.out.trans E.out)) (by have := HL.out; omega)
      obtain ⟨v0c, a', c', v1c, hV'⟩ := hk j (by have := HL.out; omega)
      have VK : Hid (VS wr S (kid vs j) a') := hV'
      have i0 : (0 : Int) ≤ (j : Int) := by omega
      have i1 : (j : Int) < (ns.length : Int) := by omega
      have i2 : (j : Int) < (len vs : Int) := by have := HL.out; omega
      have Y : Hid (((ns.getD j ⟨#[]⟩).toList == s.toList) = true → R = (num vs j, kid vs j)) := fun h => RJ.out.trans (getE_yes h)
      have U : Hid (((ns.getD j ⟨#[]⟩).toList == s.toList) = false → R = getE ns vs s j) := fun h => RJ.out.trans (getE_no h)
      obtain ⟨t, ht⟩ : ∃ t, ns.getD j ⟨#[]⟩ = t := ⟨_, rfl⟩
      rw [ht] at ck Y U
      clear hc ht hk hV' RJ
      cases he : t.toList == s.toList with
      | true =>
        have HR : Hid (R = (num vs j, kid vs j)) := Y.out he
        go_wp2_with fail
        have hb3 := two_set (u' := .int .i64 (num vs j)) (v' := .slice a' (len (kid vs j)) c') OB.out
        have s0 := two_cell0 hb3
        have s1 := two_cell1 hb3
        refine bodyPost_ret (v := .agg #[.int .i64 (num vs j), .slice a' (len (kid vs j)) c']) (by simp [results, Tryz.results92, go_sem, s0, s1]) rfl ?_
        rw [HR.out]
        refine ⟨a', c', rfl, VS_ks VK.out fun b hb _ => ?_, ((N.out.trans E.out).set (by exact Nat.le_refl _) _).set (by exact Nat.le_refl _) _⟩
        have := HS.out b hb
        rw [Below.heap_setCell _ _ _ _ (by show b ≠ w.heap.size; omega), Below.heap_setCell _ _ _ _ (by show b ≠ w.heap.size; omega)]
      | false =>
        have HU : Hid _ := U.out he
        go_wp2_with fail
        go_roundw
        case rel => exact ⟨j, (j : Int) - 1, by omega, rfl, by go_num, HU.out, E.out⟩
        case measure => simp [intOf]

end Go.Proofs.YtldbmlojgakieaaGreatDoor

namespace Go.Proofs.YtldbmlojgakieaaGreatDoor

open Go.RowKit Go.Deep Go.Maps Go.WideMaps

attribute [local go_sem ↓] Go.wp_at_zero Go.wp_at_succ

set_option maxRecDepth 100000 in
/-- A value put behind such a list: an operation of an ordered list. -/
theorem wpList_append_valF {w : World} {ops : Array Oper} {rest : List Oper} {o : Oper} {a : Act} {Q : Exit → Act → World → Prop} (hgd : o.guard = none) (s x : Operand)
    (ho : o.op = .call { callee := .builtin .append, args := #[s, x], argTypes := #[26, 26] })
    (B : Nat) (w0 : World) (hE : Fr B w0 w) (S : Nat → Prop) (base : Nat) (hb : w0.heap.size ≤ base) (hbw : base ≤ w.heap.size) (v : Value) (l : F) (hs : a.eval s = v) (hR : VR w base S v l)
    (b pc : Nat) (u : Int) (f : F) (ad : Option Addr) (c : Nat) (hx : a.eval x = .slice (some ⟨b, 0, none⟩) 1 pc) (hc0 : w.cell? ⟨b, 0, none⟩ = some (.int .i64 u)) (hc1 : w.cell? ⟨b, 1, none⟩ = some (.slice ad (len f) c))
    (hV : VS w (fun b => (S b ∨ base ≤ b) ∧ v.ownBlock ≠ some b) f ad) (h63 : len l ≤ 100000000)
    (h : ∀ av cap w', VR w' base S (.slice av (len l + 1) cap) (snoc l u f) → Fr B w0 w' → (∀ n, n < base → w'.heap[n]? = w.heap[n]?) → wpList Tryz.prog ops Q rest (a.put o.dst (.slice av (len l + 1) cap)) w') :
    wpList Tryz.prog ops Q (o :: rest) a w := by
  obtain ⟨cs, h1, h2⟩ := hR
  obtain ⟨i0, hi, hz0, hz1, hz2⟩ := info_parts Tryz.info55
  have hlen : cs.length = len l * 2 := h1.1
  refine wpList_append_lies w hgd s x 26 ho base 55 i0 _ 2 32 Tryz.underlying26 hi hz0 hz1 hz2 rfl (by omega) v (len l) cs hs h1 ⟨b, 0, none⟩ 1 pc [.int .i64 u, .slice ad (len f) c] hx rfl ?_ ?_ (by omega) (by unfold maxLen; omega) (by omega) hbw w.heap.size rfl ?_
  · intro j q hq
    match j, hq with
    | 0, hq => simp at hq; subst hq; rw [Go.WideShapes.add_plain]; exact hc0
    | 1, hq => simp at hq; subst hq; rw [Go.WideShapes.add_plain]; exact hc1
  · simp [Value.oneCell']
  · intro g cap w' hown hgrow hat hlt
    have hr := fun k (hk : v.ownBlock = some k) => (h1.lt k hk).1
    have mv : ∀ (k : F) (a' : Option Addr), VS w (fun b => (S b ∨ base ≤ b) ∧ v.ownBlock ≠ some b) k a' → VS w' (fun b => (S b ∨ base ≤ b) ∧ (Value.slice (some ⟨g, 0, none⟩) (len l + 1) cap).ownBlock ≠ some b) k a' := by
      intro k a' hk
      have q1 := VS_mono (S' := fun b => ((S b ∨ base ≤ b) ∧ v.ownBlock ≠ some b) ∧ b < w.heap.size) hk fun b hb hs => ⟨hs, hb⟩
      refine VS_mono (VS_ks q1 fun b hs hl => hgrow.block b hl (fun e => hs.1.2 e.symm)) fun b _ hs => ⟨hs.1.1, fun e => ?_⟩
      have e' : g = b := by simpa [Value.ownBlock] using e
      rcases hat with h | h
      · exact hs.1.2 (by rw [h, e'])
      · have := hs.2; omega
    refine h (some ⟨g, 0, none⟩) cap w' ⟨_, by rw [len_snoc]; exact hown, fun j hj => ?_⟩ ⟨hgrow.os.trans hE.os, hgrow.tape.trans hE.tape, hgrow.output.trans hE.output, Nat.le_trans hE.size hgrow.size, fun k hk hn => (hgrow.block k (Nat.lt_of_lt_of_le hk hE.size) (fun e => by have := hr k e.symm; omega)).trans (hE.block k hk hn)⟩ fun n hn => hgrow.block n (by omega) (fun e => by have := hr n e.symm; omega)
    rw [len_snoc] at hj
    rw [num_snoc, kid_snoc]
    by_cases e : j < len l
    · rw [if_pos e, if_pos e]
      obtain ⟨e1, a', c', e2, hk⟩ := h2 j e
      exact ⟨by rw [List.getElem?_append_left (by omega)]; exact e1, a', c', by rw [List.getElem?_append_left (by omega)]; exact e2, mv _ _ hk⟩
    · have ej : j = len l := by omega
      rw [if_neg e, if_neg e, if_pos ej, if_pos ej]
      exact ⟨by rw [List.getElem?_append_right (by omega)]; simp [hlen, ej], ad, c, by rw [List.getElem?_append_right (by omega)]; simp [hlen, ej], mv _ _ hV⟩


theorem VR.fr {w w' : World} {B base : Nat} {S : Nat → Prop} {v : Value} {l : F} (h : VR w base S v l) (hx : Fr B w w') (hb : B < base) (hS : ¬ S B) : VR w' base S v l := by
  obtain ⟨cs, ⟨h0, h1⟩, h2⟩ := h
  refine ⟨cs, ⟨h0, ?_⟩, fun j hj => ?_⟩
  · rcases h1 with h1 | ⟨g, cap, cur, e, hg, hc, h3⟩
    · exact Or.inl h1
    · exact Or.inr ⟨g, cap, cur, e, hg, hx.blk (by omega) hc, h3⟩
  · obtain ⟨e, a', c', e2, hV⟩ := h2 j hj
    refine ⟨e, a', c', e2, VS_ks hV fun b hs hlt => hx.block b hlt fun e => ?_⟩
    rcases hs.1 with h | h
    · exact hS (e ▸ h)
    · omega
theorem VR.empty (w : World) (S : Nat → Prop) : VR (w.alloc (.cells #[] 55)) w.heap.size S (.slice (some ⟨w.heap.size, 0, none⟩) 0 0) .nil :=
  ⟨[], ⟨rfl, Or.inr ⟨w.heap.size, 0, #[], rfl, Nat.le_refl _, heap_alloc_at _ _ rfl, by first | rfl | simp [len], by first | rfl | simp, by first | rfl | simp, by first | rfl | simp⟩⟩, fun _ hj => absurd hj (Nat.not_lt_zero _)⟩
theorem VS_fr {w w' : World} {B : Nat} {S : Nat → Prop} {f : F} {a : Option Addr} (h : VS w S f a) (hx : Fr B w w') (hS : ¬ S B) : VS w' S f a := VS_ks h fun b hs hlt => hx.block b hlt fun e => hS (e ▸ hs)
theorem MS_fr {w w' : World} {B : Nat} {f : TM} {a : Option Addr} (h : MS w (fun b => b ≠ B) f a) (hx : Fr B w w') : MS w' (fun b => b ≠ B) f a := MS_ks h fun b hs hlt => hx.block b hlt hs
theorem PS_fr {w w' : World} {B : Nat} {p : List Int} {a : Option Addr} (h : PS w (fun b => b ≠ B) p a) (hx : Fr B w w') : PS w' (fun b => b ≠ B) p a := PS_ks h fun b hs hlt => hx.block b hlt hs

/-- What names stand for, as the specification keeps it: four cells, the last one a fault. -/
def EB (w : World) (B : Nat) (lv nv vv : Value) (bad : Bool) : Prop := w.heap[B]? = some (.cells #[lv, nv, vv, .bool bad] 64 (0, 0))
theorem EB.ex {w w' : World} {B : Nat} {lv nv vv : Value} {bad : Bool} (h : EB w B lv nv vv bad) (hx : Ex w w') : EB w' B lv nv vv bad := hx.blk h

/-- What a term says: some value; the one that is told if none has failed; and whether one has. -/
def SpT (B : Nat) (S : Nat → Prop) (lv nv vv : Value) (R : Option (Int × F)) (w : World) (e : Ending) (w' : World) : Prop :=
  ∃ (u : Int) (g : F) (a' : Option Addr) (c' : Nat), e = .returned (.agg #[.int .i64 u, .slice a' (len g) c']) ∧ (∀ v, R = some v → v = (u, g)) ∧ (vType 4 u g).isSome = true ∧ VS w' (fun b => S b ∨ w.heap.size ≤ b) g a' ∧ Fr B w w' ∧ EB w' B lv nv vv R.isNone
def SpR (B : Nat) (S : Nat → Prop) (lv nv vv : Value) (n : Nat) (R : Option F) (w : World) (e : Ending) (w' : World) : Prop :=
  ∃ (l : F) (a' : Option Addr) (c' : Nat), e = .returned (.slice a' (len l) c') ∧ len l = n ∧ (∀ v, R = some v → v = l) ∧ tyL l ∧ VR w' w.heap.size S (.slice a' (len l) c') l ∧ Fr B w w' ∧ EB w' B lv nv vv R.isNone

/-- What the first terms say, if none has failed ahead. -/
def sP (bad : Bool) (L : ByteArray → Int × F) (f : TM) (j : Nat) : Option F := if bad then none else evP L f j
theorem sP_zero (bad : Bool) (L : ByteArray → Int × F) (f : TM) : (sP bad L f 0).isNone = bad := by cases bad <;> rfl
theorem sP_succ (bad : Bool) (L : ByteArray → Int × F) (f : TM) (j : Nat) : sP bad L f (j + 1) = (sP bad L f j).bind fun l => (evAt L f j).bind fun v => some (snoc l v.1 v.2) := by cases bad <;> rfl
theorem sP_none (bad : Bool) (L : ByteArray → Int × F) (f : TM) (j : Nat) : (if (sP bad L f j).isNone = true then none else evAt L f j).isNone = (sP bad L f (j + 1)).isNone := by
  rw [sP_succ]
  cases sP bad L f j with
  | none => rfl
  | some l => cases evAt L f j <;> rfl
theorem sP_some {bad : Bool} {L : ByteArray → Int × F} {f : TM} {j : Nat} {l : F} {u : Int} {g : F} (h : ∀ v, sP bad L f j = some v → v = l) (hu : ∀ v, (if (sP bad L f j).isNone = true then none else evAt L f j) = some v → v = (u, g)) : ∀ v, sP bad L f (j + 1) = some v → v = snoc l u g := by
  intro v hv
  rw [sP_succ] at hv
  cases h1 : sP bad L f j with
  | none => rw [h1] at hv; cases hv
  | some l' =>
    rw [h1] at hv hu
    cases h2 : evAt L f j with
    | none => rw [h2] at hv; cases hv
    | some x =>
      rw [h2] at hv hu
      have e1 := h l' h1
      have e2 := hu x rfl
      cases hv
      subst e1 e2
      rfl

set_option maxRecDepth 100000 in
set_option maxHeartbeats 4000000 in
theorem sterms_by (B : Nat) (S : Nat → Prop) (lv nv vv : Value) (L : ByteArray → Int × F) (f : TM) (a : Option Addr) (c : Nat) (bad : Bool) (w : World) (hM : MS w (fun b => b ≠ B) f a) (hl : tlen f ≤ 100000000) (hS : ∀ b, S b → b < w.heap.size ∧ b ≠ B) (hB : EB w B lv nv vv bad)
    (hK : ∀ j, j < tlen f → ∀ (pa : Option Addr) (pc : Nat) (a' : Option Addr) (c' : Nat) (bad' : Bool) (w' : World), Fr B w w' → EB w' B lv nv vv bad' → PS w' (fun b => b ≠ B) (tpath f j) pa → (tpath f j).length ≤ pc ∧ pc ≤ 9223372036854775807 → MS w' (fun b => b ≠ B) (tkid f j) a' → Calls Tryz.prog 74 #[.pointer (some ⟨B, 0, none⟩), .agg #[.int .i64 (tkind f j), .int .i64 (tnum f j), .string (tname f j), .slice pa (tpath f j).length pc, .slice a' (tlen (tkid f j)) c']] w' (SpT B S lv nv vv (if bad' = true then none else evAt L f j) w')) :
    Calls Tryz.prog 52 #[.pointer (some ⟨B, 0, none⟩), .slice a (tlen f) c] w (SpR B S lv nv vv (tlen f) (sP bad L f (tlen f)) w) := by
  have M : Hid (∀ w', Fr B w w' → MS w' (fun b => b ≠ B) f a) := fun _ h => MS_fr hM h
  have I : Hid _ := hK
  have HS : Hid (∀ b, S b → b < w.heap.size ∧ b ≠ B) := hS
  have EB0 : Hid (EB w B lv nv vv bad) := hB
  have HLN : Hid (tlen f ≤ 100000000) := hl
  have ZB : Hid (B < w.heap.size) := lt_of_block hB
  clear hM hK hS hB
  go_enter Tryz.func52, Tryz.ntmps52
  go_wp2_with fail
  go_loopw [5, 6] (fun ov i wr => ∃ (j : Nat) (l : F), j ≤ tlen f ∧ i = .int .i64 j ∧ len l = j ∧ (∀ v, sP bad L f j = some v → v = l) ∧ tyL l ∧ VR wr w.heap.size S ov l ∧ Fr B w wr ∧ EB wr B lv nv vv (sP bad L f j).isNone) (fun _ i _ => tlen f - (intOf i).toNat)
  case atStart => exact ⟨0, .nil, by omega, rfl, rfl, fun v hv => by cases bad <;> cases hv; rfl, tyL_nil, VR.empty w S, (Fr.refl _ _).alloc _, by rw [sP_zero]; exact EB0.out.ex (Ex.new _ _)⟩
  case round =>
    obtain ⟨j, l, hj, rfl, hlen, hev, hty, hvr, hx, hB⟩ := hrel
    have EV0 : Hid (∀ v, sP bad L f j = some v → v = l) := hev
    have LJ : Hid (len l = j) := hlen
    have TY : Hid (tyL l) := hty
    have E : Hid (Fr B w wr) := hx
    have EBR : Hid (EB wr B lv nv vv (sP bad L f j).isNone) := hB
    obtain ⟨av, ac, rfl, hvs⟩ := hvr.vs
    have VV : Hid (VS wr (fun b => S b ∨ w.heap.size ≤ b) l av) := hvs
    have O : Hid (VR wr w.heap.size S (.slice av (len l) ac) l) := hvr
    clear hx hev hty hvr hlen hvs hB
    by_cases hlt : j < tlen f
    · obtain ⟨b, o, rfl, hbB, hbs, hk⟩ := MS_at (M.out wr E.out) (by omega)
      obtain ⟨e0, e1, e2, ⟨pa, pc, e3, hp'⟩, a', c', e4, hm'⟩ := hk j hlt
      have HI : Hid (Calls Tryz.prog 74 #[.pointer (some ⟨B, 0, none⟩), .agg #[.int .i64 (tkind f j), .int .i64 (tnum f j), .string (tname f j), .slice pa (tpath f j).length pc, .slice a' (tlen (tkid f j)) c']] wr (SpT B S lv nv vv (if (sP bad L f j).isNone = true then none else evAt L f j) wr)) := I.out j hlt pa pc a' c' _ wr E.out EBR.out hp'.1 hp'.2 hm'
      clear hk hp' hm' hbB
      go_wp2_with fail
      refine Calls.mono HI.out ?_
      rintro e w1 ⟨u, g, a1, c1', rfl, hu, ht, hV1, hF1, hB1⟩
      have EVN : Hid (∀ v, sP bad L f (j + 1) = some v → v = snoc l u g) := sP_some EV0.out hu
      have TYN : Hid (tyL (snoc l u g)) := tyL_snoc TY.out ht
      have FN : Hid (Fr B w w1) := E.out.trans hF1
      have EBN : Hid (EB w1 B lv nv vv (sP bad L f (j + 1)).isNone) := by
        show EB _ _ _ _ _ _
        rw [← sP_none]; exact hB1
      have NB : ¬ S B := fun h => (HS.out B h).2 rfl
      have O2 : Hid (VR (w1.alloc (.cells #[.int .i64 u, .slice a1 (len g) c1'] 55)) w.heap.size S (.slice av (len l) ac) l) := (VR.fr O.out hF1 ZB.out NB).ex (Ex.new _ _)
      have C20 : Hid ((w1.alloc (.cells #[.int .i64 u, .slice a1 (len g) c1'] 55)).cell? ⟨w1.heap.size, 0, none⟩ = some (.int .i64 u)) := by show _ = _; simp
      have C21 : Hid ((w1.alloc (.cells #[.int .i64 u, .slice a1 (len g) c1'] 55)).cell? ⟨w1.heap.size, 1, none⟩ = some (.slice a1 (len g) c1')) := by show _ = _; simp
      have V3 : Hid (VS (w1.alloc (.cells #[.int .i64 u, .slice a1 (len g) c1'] 55)) (fun b => (S b ∨ w.heap.size ≤ b) ∧ (Value.slice av (len l) ac).ownBlock ≠ some b) g a1) := VS_mono (VS_ex hV1 (Ex.new _ _)) fun b _ hb => by
        have ho := VR.own O.out
        have hz := E.out.size
        rcases hb with hb | hb
        · exact ⟨Or.inl hb, fun e => by have := (ho b e).1; have := (HS.out b hb).1; omega⟩
        · exact ⟨Or.inr (by omega), fun e => by have := (ho b e).2; omega⟩
      have FA : Hid (Fr B w (w1.alloc (.cells #[.int .i64 u, .slice a1 (len g) c1'] 55))) := FN.out.alloc _
      have j6 : len l ≤ 100000000 := by have := LJ.out; have := HLN.out; omega
      clear hu ht hV1 hF1 hB1 O E EBR VV HI EV0 TY NB
      go_wp2_with (at_builtin; refine wpList_append_valF rfl _ _ rfl B w FA.out S w.heap.size (Nat.le_refl _) FA.out.size (.slice av (len l) ac) l rfl O2.out w1.heap.size 1 u g a1 c1' rfl C20.out C21.out V3.out j6 ?_)
      intro av3 ac3 w3 hown3 hx3 hk3
      have O4 : Hid (VR w3 w.heap.size S (.slice av3 (len l + 1) ac3) (snoc l u g)) := hown3
      have F3 : Hid (Fr B w w3) := hx3
      have EB3 : Hid (EB w3 B lv nv vv (sP bad L f (j + 1)).isNone) := (hk3 B ZB.out).trans (EBN.out.ex (Ex.new _ _))
      clear hown3 hx3 hk3 O2 C20 C21 V3 FA EBN
      go_wp2_with fail
      go_roundw
      case rel => exact ⟨j + 1, _, by omega, by go_num, by rw [len_snoc, LJ.out], EVN.out, TYN.out, O4.out, F3.out, EB3.out⟩
      case measure => simp [intOf]; omega
    · have hje : j = tlen f := by omega
      have JE : Hid (j = tlen f) := hje
      clear hje
      go_wp2_with fail
      go_ret
      exact ⟨l, av, ac, rfl, by rw [LJ.out, JE.out], by rw [← JE.out]; exact EV0.out, TY.out, O.out, E.out, by rw [← JE.out]; exact EBR.out⟩

/-- .. and all of them. -/
theorem sP_all (bad : Bool) (L : ByteArray → Int × F) (f : TM) : sP bad L f (tlen f) = if bad then none else evL L f := by unfold sP; rw [evP_all]

end Go.Proofs.YtldbmlojgakieaaGreatDoor

namespace Go.Proofs.YtldbmlojgakieaaGreatDoor

open Go.RowKit Go.Deep Go.Maps Go.WideMaps

attribute [local go_sem ↓] Go.wp_at_zero Go.wp_at_succ

theorem oneV_1 {L : ByteArray → Int × F} {n : Int} {s : ByteArray} {p : List Int} (l : F) : oneV L 1 n s p (some l) = some (n, .nil) := rfl
theorem oneV_2 {L : ByteArray → Int × F} {n : Int} {s : ByteArray} {p : List Int} (l : F) : oneV L 2 n s p (some l) = some (L s) := rfl
theorem oneV_6 {L : ByteArray → Int × F} {n : Int} {s : ByteArray} {p : List Int} (l : F) : oneV L 6 n s p (some l) = okV 0 l := rfl
theorem oneV_7 {L : ByteArray → Int × F} {n : Int} {s : ByteArray} {p : List Int} (l : F) : oneV L 7 n s p (some l) = mkV (valAtR (num l 0) (kid l 0) p) := rfl
theorem oneV_8 {L : ByteArray → Int × F} {n : Int} {s : ByteArray} {p : List Int} (l : F) : oneV L 8 n s p (some l) = mkV (valPutR (num l 0) (kid l 0) p (num l 1) (kid l 1)) := rfl
theorem oneV_o {L : ByteArray → Int × F} {k n : Int} {s : ByteArray} {p : List Int} (l : F) (h1 : ¬ k = 1) (h2 : ¬ k = 2) (h6 : ¬ k = 6) (h7 : ¬ k = 7) (h8 : ¬ k = 8) : oneV L k n s p (some l) = numV k (num l 0) (kid l 0) (num l 1) (kid l 1) := by
  simp only [oneV, opV]
  rw [if_neg h1, if_neg h2, if_neg h6, if_neg h7, if_neg h8]

theorem VS_one {w : World} {S : Nat → Prop} {f : F} {a : Option Addr} (h : VS w S f a) (h0 : 0 < len f) : ∃ b o a0 k0, a = some ⟨b, o, none⟩ ∧ w.cell? ⟨b, o, none⟩ = some (.int .i64 (num f 0)) ∧ w.cell? ⟨b, o + 1, none⟩ = some (.slice a0 (len (kid f 0)) k0) ∧ VS w S (kid f 0) a0 := by
  obtain ⟨b, o, e, _, _, hk⟩ := VS_at h h0
  obtain ⟨h1, a0, k0, h2, h3⟩ := hk 0 h0
  exact ⟨b, o, a0, k0, e, h1, h2, h3⟩
theorem VS_pair {w : World} {S : Nat → Prop} {f : F} {a : Option Addr} (h : VS w S f a) (h0 : len f = 2) : ∃ b o a0 k0 a1 k1, a = some ⟨b, o, none⟩ ∧ w.cell? ⟨b, o, none⟩ = some (.int .i64 (num f 0)) ∧ w.cell? ⟨b, o + 1, none⟩ = some (.slice a0 (len (kid f 0)) k0) ∧ w.cell? ⟨b, o + 2, none⟩ = some (.int .i64 (num f 1)) ∧ w.cell? ⟨b, o + 3, none⟩ = some (.slice a1 (len (kid f 1)) k1) ∧ VS w S (kid f 0) a0 ∧ VS w S (kid f 1) a1 := by
  obtain ⟨b, o, e, _, _, hk⟩ := VS_at h (by omega)
  obtain ⟨h1, a0, k0, h2, h3⟩ := hk 0 (by omega)
  obtain ⟨h4, a1, k1, h5, h6⟩ := hk 1 (by omega)
  exact ⟨b, o, a0, k0, a1, k1, e, h1, h2, h4, h5, h3, h6⟩
theorem ty_num {l : F} (h : tyL l) {i : Nat} (hi : i < len l) : 0 ≤ num l i ∧ num l i ≤ 9999 := by
  have ht := h i hi
  cases hv : vType 4 (num l i) (kid l i) with
  | none => rw [hv] at ht; cases ht
  | some u =>
    unfold vType at hv
    split at hv
    · split at hv
      · assumption
      · cases hv
    · split at hv
      · rename_i h2; rw [h2.2]; omega
      · cases hv

/-- A value told through a box of the call's own. -/
theorem ret_val {eb : Addr} {S : Nat → Prop} {R : Option (Int × F)} {w w2 : World} {b : Nat} {u v : Value} {e : Ending} {a2 : Option Addr} {c2 : Nat} (hX : Ex w w2) (hV : VS w2 (fun q => S q ∨ b < q) (v0 R).2 a2) (hS : ∀ q, S q → q < w.heap.size) (hb : w.heap.size ≤ b) (he : e = .returned (.tuple #[.agg #[.int .i64 (v0 R).1, .slice a2 (len (v0 R).2) c2], errV eb R.isSome])) : ValP eb S R w e ((w2.setCell ⟨b, 0, none⟩ u).setCell ⟨b, 1, none⟩ v) := by
  refine ⟨a2, c2, he, VS_mono (VS_ks hV fun q hq _ => ?_) fun q _ hq => ?_, (hX.set (by exact hb) _).set (by exact hb) _⟩
  · have hne : q ≠ b := by
      rcases hq with h | h
      · have := hS q h; omega
      · omega
    rw [Below.heap_setCell _ _ _ _ hne, Below.heap_setCell _ _ _ _ hne]
  · rcases hq with h | h
    · exact Or.inl h
    · exact Or.inr (by omega)

set_option maxRecDepth 100000 in
set_option maxHeartbeats 4000000 in
theorem nterm_by (eb : Addr) (S : Nat → Prop) (L : ByteArray → Int × F) (la : Option Addr) (ll lc mb mn : Nat) (k n : Int) (s : ByteArray) (p : List Int) (pa : Option Addr) (pc : Nat) (f : TM) (a : Option Addr) (c : Nat) (w : World)
    (hG : w.cell? ⟨1, 0, none⟩ = some (EV eb)) (hE : EM w S mb mn L) (hS : ∀ b, S b → b < w.heap.size) (hs : s.size ≤ 9223372036854775807) (hp : p.length ≤ 1000000000) (hpc : p.length ≤ pc ∧ pc ≤ 9223372036854775807) (hP : PA w 0 p pa)
    (hsh : k = 1 ∨ k = 2 ∨ k = 6 ∨ (k = 7 ∧ tlen f = 1) ∨ (k ≠ 7 ∧ tlen f = 2)) (hT : ∀ l, evL L f = some l → tyL l)
    (hK : ∀ w', Ex w w' → Calls Tryz.prog 104 #[.agg #[.slice la ll lc, .map (some mb)], .slice a (tlen f) c] w' (RowP eb S (evL L f) w')) :
    Calls Tryz.prog 123 #[.agg #[.slice la ll lc, .map (some mb)], .agg #[.int .i64 k, .int .i64 n, .string s, .slice pa p.length pc, .slice a (tlen f) c]] w (ValP eb S (oneV L k n s p (evL L f)) w) := by
  have G : Hid (∀ w', Ex w w' → w'.cell? ⟨1, 0, none⟩ = some (EV eb)) := fun w' h => h.at hG
  have EE : Hid (∀ w', Ex w w' → EM w' S mb mn L) := fun w' h => hE.ex h
  have HS : Hid (∀ b, S b → b < w.heap.size) := hS
  have SZ : Hid (s.size ≤ 9223372036854775807) := hs
  have PL : Hid (p.length ≤ 1000000000 ∧ p.length ≤ pc ∧ pc ≤ 9223372036854775807) := ⟨hp, hpc.1, hpc.2⟩
  have P : Hid (∀ w', Ex w w' → PA w' 0 p pa) := fun _ h => PA_below hP h
  have SH : Hid (k = 1 ∨ k = 2 ∨ k = 6 ∨ (k = 7 ∧ tlen f = 1) ∨ (k ≠ 7 ∧ tlen f = 2)) := hsh
  have TT : Hid (∀ l, evL L f = some l → tyL l) := hT
  have K : Hid (∀ w', Ex w w' → Calls Tryz.prog 104 #[.agg #[.slice la ll lc, .map (some mb)], .slice a (tlen f) c] w' (RowP eb S (evL L f) w')) := hK
  have N : Hid (Ex w (((w.alloc (.cells #[.slice la ll lc, .map (some mb)] 137)).alloc (.cells #[.int .i64 k, .int .i64 n, .string s, .slice pa p.length pc, .slice a (tlen f) c] 121)).alloc (.cells #[.int .i64 0, .slice none 0 0] 55))) := ((Ex.new _ _).alloc _).alloc _
  have C : Hid (∀ w', Ex (((w.alloc (.cells #[.slice la ll lc, .map (some mb)] 137)).alloc (.cells #[.int .i64 k, .int .i64 n, .string s, .slice pa p.length pc, .slice a (tlen f) c] 121)).alloc (.cells #[.int .i64 0, .slice none 0 0] 55)) w' → w'.cell? ⟨w.heap.size, 0, none⟩ = some (.slice la ll lc) ∧ w'.cell? ⟨w.heap.size, 1, none⟩ = some (.map (some mb)) ∧ w'.cell? ⟨w.heap.size + 1, 0, none⟩ = some (.int .i64 k) ∧ w'.cell? ⟨w.heap.size + 1, 1, none⟩ = some (.int .i64 n) ∧ w'.cell? ⟨w.heap.size + 1, 2, none⟩ = some (.string s) ∧ w'.cell? ⟨w.heap.size + 1, 3, none⟩ = some (.slice pa p.length pc) ∧ w'.cell? ⟨w.heap.size + 1, 4, none⟩ = some (.slice a (tlen f) c) ∧ w'.heap[w.heap.size + 2]? = some (.cells #[.int .i64 0, .slice none 0 0] 55 (0, 0))) := fun w' h => ⟨h.at (((Ex.new _ _).alloc _).at (by simp)), h.at (((Ex.new _ _).alloc _).at (by simp)), h.at ((Ex.new _ _).at (by simp)), h.at ((Ex.new _ _).at (by simp)), h.at ((Ex.new _ _).at (by simp)), h.at ((Ex.new _ _).at (by simp)), h.at ((Ex.new _ _).at (by simp)), h.blk (heap_alloc_at _ _ (by simp))⟩
  have LN : Hid (∀ l, evL L f = some l → len l = tlen f) := fun l h => evL_len h
  clear hG hE hS hs hp hpc hP hsh hT hK
  obtain ⟨E, hEv⟩ : ∃ E, E = evL L f := ⟨_, rfl⟩
  rw [← hEv] at TT K LN ⊢
  clear hEv
  obtain ⟨R, hR⟩ : ∃ R, R = oneV L k n s p E := ⟨_, rfl⟩
  have RR : Hid (R = oneV L k n s p E) := hR
  rw [← hR]
  clear hR
  go_enter Tryz.func123, Tryz.ntmps123
  go_wp2_with fail
  refine Calls.mono (K.out _ N.out) ?_
  rintro e w1 ⟨a1, c1', rfl, hV1, hb1⟩
  obtain ⟨b0, b1, c0, c1, c2, c3, c4, hr⟩ := C.out w1 hb1
  have HR : Hid (w1.heap[w.heap.size + 2]? = some (.cells #[.int .i64 0, .slice none 0 0] 55 (0, 0))) := hr
  have r0 := two_cell0 hr
  have r1 := two_cell1 hr
  have r2 := two_free (i := 0) hr
  have r3 := two_free (i := 1) hr
  have X1 : Hid (Ex w w1) := N.out.trans hb1
  have zW : (((w.alloc (.cells #[.slice la ll lc, .map (some mb)] 137)).alloc (.cells #[.int .i64 k, .int .i64 n, .string s, .slice pa p.length pc, .slice a (tlen f) c] 121)).alloc (.cells #[.int .i64 0, .slice none 0 0] 55)).heap.size = w.heap.size + 3 := by simp only [World.size_alloc]
  rw [zW] at hV1
  have V1 : Hid (VS w1 (fun b => S b ∨ w.heap.size + 3 ≤ b) (E.getD .nil) a1) := hV1
  clear hV1 hb1 K C zW hr
  cases E with
  | none =>
    simp only [Option.getD_none, Option.isSome_none, errV, Bool.false_eq_true, if_false]
    go_wp2_with fail
    have hb3 := two_set (u' := .int .i64 0) (v' := .slice none 0 0) HR.out
    have s0 := two_cell0 hb3
    have s1 := two_cell1 hb3
    refine bodyPost_ret (v := .tuple #[.agg #[.int .i64 0, .slice none 0 0], EV eb]) (by simp [results, Tryz.results123, go_sem, s0, s1]) rfl ?_
    have e : R = none := RR.out
    rw [e]
    exact ret_val (R := none) (a2 := none) (c2 := 0) X1.out (Or.inl rfl) HS.out (by omega) rfl
  | some l =>
    have TY : Hid (tyL l) := TT.out l rfl
    have LL : Hid (len l = tlen f) := LN.out l rfl
    have V2 : Hid (VS w1 (fun b => S b ∨ w.heap.size + 3 ≤ b) l a1) := V1.out
    simp only [Option.getD_some, Option.isSome_some, errV, if_true]
    clear TT LN V1
    by_cases k1 : k = 1
    · subst k1
      have RV : Hid (R = some (n, .nil)) := RR.out
      go_wp2_with fail
      have hb3 := two_set (u' := .int .i64 n) (v' := .slice none 0 0) HR.out
      have s0 := two_cell0 hb3
      have s1 := two_cell1 hb3
      refine bodyPost_ret (v := .tuple #[.agg #[.int .i64 n, .slice none 0 0], .nilIface]) (by simp [results, Tryz.results123, go_sem, s0, s1]) rfl ?_
      rw [RV.out]
      exact ret_val (R := some (n, .nil)) (a2 := none) (c2 := 0) X1.out (Or.inl rfl) HS.out (by omega) rfl
    by_cases k2 : k = 2
    · subst k2
      have RV : Hid (R = some (L s)) := RR.out
      obtain ⟨a2, c2', hrun, hVL⟩ := (EE.out w1 X1.out).look SZ.out
      have VL : Hid (VS w1 S (L s).2 a2) := hVL
      obtain ⟨v, hv⟩ : ∃ v, v = L s := ⟨_, rfl⟩
      rw [← hv] at hrun VL RV
      clear hVL hv
      obtain ⟨u, g⟩ := v
      dsimp only at hrun VL
      go_wp2_with fail
      have hb3 := two_set (u' := .int .i64 u) (v' := .slice a2 (len g) c2') HR.out
      have s0 := two_cell0 hb3
      have s1 := two_cell1 hb3
      refine bodyPost_ret (v := .tuple #[.agg #[.int .i64 u, .slice a2 (len g) c2'], .nilIface]) (by simp [results, Tryz.results123, go_sem, s0, s1]) rfl ?_
      rw [RV.out]
      exact ret_val (R := some (u, g)) (a2 := a2) (c2 := c2') X1.out (VS_mono VL.out fun b _ hb => Or.inl hb) HS.out (by omega) rfl
    by_cases k6 : k = 6
    · subst k6
      have RV : R = okV 0 l := RR.out
      have OK : Hid (Calls Tryz.prog 132 #[.agg #[.int .i64 0, .slice a1 (len l) c1']] w1 (ValP eb (fun b => S b ∨ w.heap.size + 3 ≤ b) (okV 0 l) w1)) := okOrFails_any eb _ 0 l a1 c1' w1 (G.out w1 X1.out) V2.out
      rw [← RV] at OK
      clear RV
      go_wp2_with fail
      refine Calls.mono OK.out ?_
      rintro e w2 ⟨a2, c2', rfl, hV3, hb2⟩
      have V3 : Hid (VS w2 (fun b => (S b ∨ w.heap.size + 3 ≤ b) ∨ w1.heap.size ≤ b) (v0 R).2 a2) := hV3
      have X2 : Hid (Ex w1 w2) := hb2
      have hr2 := hb2.blk HR.out
      clear r0 r1 r2 r3 hV3 hb2
      have r0 := two_cell0 hr2
      have r1 := two_cell1 hr2
      have r2 := two_free (i := 0) hr2
      have r3 := two_free (i := 1) hr2
      go_wp2_with fail
      have hb3 := two_set (u' := .int .i64 (v0 R).1) (v' := .slice a2 (len (v0 R).2) c2') hr2
      have s0 := two_cell0 hb3
      have s1 := two_cell1 hb3
      refine bodyPost_ret (v := .tuple #[.agg #[.int .i64 (v0 R).1, .slice a2 (len (v0 R).2) c2'], errV eb R.isSome]) (by simp [results, Tryz.results123, go_sem, s0, s1]) rfl ?_
      refine ret_val (X1.out.trans X2.out) (VS_mono V3.out fun b _ hb => ?_) HS.out (by omega) rfl
      have := lt_of_block HR.out
      rcases hb with (hb | hb) | hb
      · exact Or.inl hb
      · exact Or.inr (by omega)
      · exact Or.inr (by omega)
    by_cases k7 : k = 7
    · subst k7
      have RV : R = mkV (valAtR (num l 0) (kid l 0) p) := RR.out
      have L1 : Hid (len l = 1) := by
        have := LL.out
        have := SH.out
        show _ = _
        omega
      obtain ⟨b, o, a0, k0, rfl, n0, m0, hV0⟩ := VS_one V2.out (by have := L1.out; omega)
      have IA : Hid (∀ w', Ex w1 w' → Calls Tryz.prog 134 #[.agg #[.int .i64 (num l 0), .slice a0 (len (kid l 0)) k0], .slice pa p.length pc] w' fun e w'' => ∃ a' cap', e = .returned (.tuple #[.agg #[.int .i64 (valAtR (num l 0) (kid l 0) p).1.1, .slice a' (len (valAtR (num l 0) (kid l 0) p).1.2) cap'], .bool (valAtR (num l 0) (kid l 0) p).2]) ∧ VA w'' w'.heap.size (valAtR (num l 0) (kid l 0) p).1.2 a' ∧ Ex w' w'') := fun w' h => iValAt_any _ _ p a0 k0 pa pc 0 w' PL.out.1 (VS_mono (VS_ex hV0 h) fun _ _ _ => Nat.zero_le _) (P.out w' (X1.out.trans h))
      have hl0 : (0 : Int) < (len l : Int) := by have := L1.out; omega
      obtain ⟨Q, hQ⟩ : ∃ Q, Q = valAtR (num l 0) (kid l 0) p := ⟨_, rfl⟩
      rw [← hQ] at IA RV
      clear hQ hV0
      obtain ⟨⟨u, g⟩, ok⟩ := Q
      dsimp only at IA
      have IT : Hid (∀ w' a' c', Ex w1 w' → VA w' w1.heap.size g a' → Calls Tryz.prog 133 #[.agg #[.int .i64 u, .slice a' (len g) c'], .bool ok] w' (ValP eb (fun b => w1.heap.size ≤ b) (mkV ((u, g), ok)) w')) := fun w' a' c' h hv => thereOrFails_any eb _ u g a' c' ok w' (G.out w' (X1.out.trans h)) hv
      rw [← RV] at IT
      clear RV
      have zr := lt_of_block HR.out
      go_wp2_with fail
      go_region_with (first | (go_at_call 134; refine (IA.out _ (Ex.refl _).drew).mono ?_; rintro e w5 ⟨a5, k5, rfl, hV5, hb5⟩; have xb : Ex w1 w5 := Ex.trans (Ex.refl _).drew hb5; have V5 : VA w5 w1.heap.size g a5 := hV5; clear hV5 r0 r1 r2 r3) | (go_at_call 133; refine (IT.out _ _ _ xb V5).mono ?_; rintro e w6 ⟨a6, k6, rfl, hV6, hb6⟩; have xc : Ex w1 w6 := Ex.trans xb hb6; have hr6 := xc.blk HR.out; have r0 := two_cell0 hr6; have r1 := two_cell1 hr6; have r2 := two_free (i := 0) hr6; have r3 := two_free (i := 1) hr6))
      all_goals
        go_wp2_with fail
        have hb3 := two_set (u' := .int .i64 (v0 R).1) (v' := .slice a6 (len (v0 R).2) k6) hr6
        have s0 := two_cell0 hb3
        have s1 := two_cell1 hb3
        refine bodyPost_ret (v := .tuple #[.agg #[.int .i64 (v0 R).1, .slice a6 (len (v0 R).2) k6], errV eb R.isSome]) (by simp [results, Tryz.results123, go_sem, s0, s1]) rfl ?_
        refine ret_val (X1.out.trans xc) (VS_mono hV6 fun b _ hb => ?_) HS.out (by omega) rfl
        have := xb.size
        rcases hb with hb | hb
        · exact Or.inr (by omega)
        · exact Or.inr (by omega)
    have L2 : Hid (len l = 2) := by
      have := LL.out
      have := SH.out
      show _ = _
      omega
    obtain ⟨b, o, a0, k0, a1', k1', rfl, n0, m0, n1, m1, hV0, hV1⟩ := VS_pair V2.out L2.out
    have hl0 : (0 : Int) < (len l : Int) := by have := L2.out; omega
    have hl1 : (1 : Int) < (len l : Int) := by have := L2.out; omega
    have zr := lt_of_block HR.out
    by_cases k8 : k = 8
    · subst k8
      have RV : R = mkV (valPutR (num l 0) (kid l 0) p (num l 1) (kid l 1)) := RR.out
      have IA : Hid (∀ w', Ex w1 w' → Calls Tryz.prog 135 #[.agg #[.int .i64 (num l 0), .slice a0 (len (kid l 0)) k0], .slice pa p.length pc, .agg #[.int .i64 (num l 1), .slice a1' (len (kid l 1)) k1']] w' (PutPost (valPutR (num l 0) (kid l 0) p (num l 1) (kid l 1)) w')) := fun w' h => iValPut_any _ _ p _ _ a0 a1' pa k0 k1' pc 0 0 w' PL.out.1 PL.out.2.1 PL.out.2.2 (VS_mono (VS_ex hV0 h) fun _ _ _ => Nat.zero_le _) (VS_mono (VS_ex hV1 h) fun _ _ _ => Nat.zero_le _) (P.out w' (X1.out.trans h))
      obtain ⟨Q, hQ⟩ : ∃ Q, Q = valPutR (num l 0) (kid l 0) p (num l 1) (kid l 1) := ⟨_, rfl⟩
      rw [← hQ] at IA RV
      clear hQ hV0 hV1
      obtain ⟨⟨u, g⟩, ok⟩ := Q
      have IT : Hid (∀ w' a' c', Ex w1 w' → VA w' w1.heap.size g a' → Calls Tryz.prog 133 #[.agg #[.int .i64 u, .slice a' (len g) c'], .bool ok] w' (ValP eb (fun b => w1.heap.size ≤ b) (mkV ((u, g), ok)) w')) := fun w' a' c' h hv => thereOrFails_any eb _ u g a' c' ok w' (G.out w' (X1.out.trans h)) hv
      rw [← RV] at IT
      clear RV
      go_wp2_with fail
      go_region_with (first | (go_at_call 135; refine (IA.out _ (Ex.refl _).drew).mono ?_; rintro e w5 ⟨a5, k5, rfl, hV5, hb5⟩; dsimp only; have xb : Ex w1 w5 := Ex.trans (Ex.refl _).drew hb5; have V5 : VA w5 w1.heap.size g a5 := hV5.vs; clear hV5 r0 r1 r2 r3) | (go_at_call 133; refine (IT.out _ _ _ xb V5).mono ?_; rintro e w6 ⟨a6, k6, rfl, hV6, hb6⟩; have xc : Ex w1 w6 := Ex.trans xb hb6; have hr6 := xc.blk HR.out; have r0 := two_cell0 hr6; have r1 := two_cell1 hr6; have r2 := two_free (i := 0) hr6; have r3 := two_free (i := 1) hr6))
      all_goals
        go_wp2_with fail
        have hb3 := two_set (u' := .int .i64 (v0 R).1) (v' := .slice a6 (len (v0 R).2) k6) hr6
        have s0 := two_cell0 hb3
        have s1 := two_cell1 hb3
        refine bodyPost_ret (v := .tuple #[.agg #[.int .i64 (v0 R).1, .slice a6 (len (v0 R).2) k6], errV eb R.isSome]) (by simp [results, Tryz.results123, go_sem, s0, s1]) rfl ?_
        refine ret_val (X1.out.trans xc) (VS_mono hV6 fun b _ hb => ?_) HS.out (by omega) rfl
        have := xb.size
        rcases hb with hb | hb
        · exact Or.inr (by omega)
        · exact Or.inr (by omega)
    · have RV : R = numV k (num l 0) (kid l 0) (num l 1) (kid l 1) := RR.out.trans (oneV_o l k1 k2 k6 k7 k8)
      have IN : Hid (∀ w', Ex w1 w' → Calls Tryz.prog 136 #[.int .i64 k, .agg #[.int .i64 (num l 0), .slice a0 (len (kid l 0)) k0], .agg #[.int .i64 (num l 1), .slice a1' (len (kid l 1)) k1']] w' (ValP eb (fun _ => False) (numV k (num l 0) (kid l 0) (num l 1) (kid l 1)) w')) := fun w' h => ofNumbers_any eb _ k _ _ a0 k0 _ _ a1' k1' w' (G.out w' (X1.out.trans h)) (ty_num TY.out (by have := L2.out; omega)) (ty_num TY.out (by have := L2.out; omega))
      rw [← RV] at IN
      clear RV hV0 hV1
      have q1 : (k == 1) = false := by rw [beq_eq_false_iff_ne]; exact k1
      have q2 : (k == 2) = false := by rw [beq_eq_false_iff_ne]; exact k2
      have q6 : (k == 6) = false := by rw [beq_eq_false_iff_ne]; exact k6
      have q7 : (k == 7) = false := by rw [beq_eq_false_iff_ne]; exact k7
      have q8 : (k == 8) = false := by rw [beq_eq_false_iff_ne]; exact k8
      go_wp2_with fail
      go_region_with (go_at_call 136; refine (IN.out _ (Ex.refl _).drew).mono ?_; rintro e w6 ⟨a6, k6', rfl, hV6, hb6⟩; have xc : Ex w1 w6 := Ex.trans (Ex.refl _).drew hb6; clear r0 r1 r2 r3; have hr6 := xc.blk HR.out; have r0 := two_cell0 hr6; have r1 := two_cell1 hr6; have r2 := two_free (i := 0) hr6; have r3 := two_free (i := 1) hr6)
      all_goals
        go_wp2_with fail
        have hb3 := two_set (u' := .int .i64 (v0 R).1) (v' := .slice a6 (len (v0 R).2) k6') hr6
        have s0 := two_cell0 hb3
        have s1 := two_cell1 hb3
        refine bodyPost_ret (v := .tuple #[.agg #[.int .i64 (v0 R).1, .slice a6 (len (v0 R).2) k6'], errV eb R.isSome]) (by simp [results, Tryz.results123, go_sem, s0, s1]) rfl ?_
        refine ret_val (X1.out.trans xc) (VS_mono hV6 fun b _ hb => ?_) HS.out (by omega) rfl
        have hz : w1.drew.heap.size = w1.heap.size := rfl
        rcases hb with hb | hb
        · exact hb.elim
        · rw [hz] at hb
          exact Or.inr (by omega)

end Go.Proofs.YtldbmlojgakieaaGreatDoor
