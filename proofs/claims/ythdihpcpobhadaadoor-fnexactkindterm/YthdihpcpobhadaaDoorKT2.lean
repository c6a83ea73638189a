/- Walks: types of terms, by the program: small ones, and the loop. -/
import Derived.Test.YthdihpcpobhadaaDoorKT1

namespace Go.Proofs.YthdihpcpobhadaaDoor

open Go.RowKit Go.Deep Go.Maps Go.WideMaps

attribute [local go_sem ↓] Go.wp_at_zero Go.wp_at_succ

set_option maxRecDepth 100000 in
set_option maxHeartbeats 2000000 in
theorem isNumberType_any (f : F) (a : Option Addr) (c : Nat) (z : Bool) (hz : (((len f : Nat) : Int) == 0) = z) (w : World) :
    Calls Tryd.prog 77 #[.agg #[.slice a (len f) c]] w fun e w' => e = .returned (.bool z) ∧ Ex w w' := by
  go_enter Tryd.func77, Tryd.ntmps77
  go_wp2_with fail
  go_ret
  exact ⟨rfl, Ex.new _ _⟩

/-- A type, if it is so. -/
def ifT (ok : Bool) (f : F) : Option F := if ok then some f else none

set_option maxRecDepth 100000 in
set_option maxHeartbeats 2000000 in
theorem typeIf_any (eb : Addr) (S : Nat → Prop) (f : F) (a : Option Addr) (c : Nat) (ok : Bool) (w : World) (hG : w.cell? ⟨1, 0, none⟩ = some (EV eb)) (hV : SA w S f a) :
    Calls Tryd.prog 75 #[.agg #[.slice a (len f) c], .bool ok] w (TyP eb S (ifT ok f) w) := by
  have V : Hid (∀ w', Ex w w' → SA w' S f a) := fun _ h => SA_ex hV h
  have g1 : ((w.alloc (.cells #[.slice a (len f) c] 32)).alloc (.cells #[.slice none 0 0] 32)).cell? ⟨1, 0, none⟩ = some (EV eb) := ((Ex.new _ _).alloc _).at hG
  have N : Hid (Ex w ((w.alloc (.cells #[.slice a (len f) c] 32)).alloc (.cells #[.slice none 0 0] 32))) := (Ex.new _ _).alloc _
  have zg : 1 < w.heap.size := World.block_lt_of_cell? _ _ hG
  clear hV hG
  cases ok with
  | false =>
    go_enter Tryd.func75, Tryd.ntmps75
    go_wp2_with fail
    go_region
    all_goals
      go_wp2_with fail
      refine bodyPost_ret (v := .tuple #[.agg #[.slice none 0 0], EV eb]) (by simp [results, Tryd.results75, go_sem]) rfl ⟨none, 0, rfl, Or.inl rfl, ?_⟩
      first | exact N.out.drew.set (by show w.heap.size ≤ w.heap.size + 1; omega) _ | exact (N.out.set (by show w.heap.size ≤ w.heap.size + 1; omega) _).drew | exact N.out.drew | exact N.out | exact N.out.set (by show w.heap.size ≤ w.heap.size + 1; omega) _ | exact ((Ex.new _ _).drew.alloc _) | exact ((Ex.new _ _).alloc _).drew | exact ((Ex.new _ _).alloc _)
  | true =>
    go_enter Tryd.func75, Tryd.ntmps75
    go_wp2_with fail
    refine bodyPost_ret (v := .tuple #[.agg #[.slice a (len f) c], .nilIface]) (by simp [results, Tryd.results75, go_sem]) rfl ⟨a, c, rfl, ?_, ?_⟩
    · exact SA_mono (V.out _ ((Ex.new _ _).alloc _)) fun b _ hb => Or.inl hb
    · exact (Ex.new _ _).alloc _

set_option maxRecDepth 100000 in
set_option maxHeartbeats 4000000 in
theorem keach_by (eb : Addr) (S : Nat → Prop) (L : ByteArray → F) (la : Option Addr) (ll lc : Nat) (tm : Option Nat) (mb : Nat) (f : TM) (a : Option Addr) (c : Nat) (w : World) (hM : MA w 0 f a) (hl : tlen f ≤ 100000000) (hS : ∀ b, S b → b < w.heap.size)
    (hK : ∀ j, j < tlen f → ∀ (pa : Option Addr) (pc : Nat) (a' : Option Addr) (c' : Nat) (w' : World), Ex w w' → PA w' 0 (tpath f j) pa → (tpath f j).length ≤ pc ∧ pc ≤ 9223372036854775807 → MA w' 0 (tkid f j) a' → Calls Tryd.prog 69 #[.agg #[.slice la ll lc, .map tm, .map (some mb)], .agg #[.int .i64 (tkind f j), .int .i64 (tnum f j), .string (tname f j), .slice pa (tpath f j).length pc, .slice a' (tlen (tkid f j)) c']] w' (TyP eb S (evTAt L f j) w')) :
    Calls Tryd.prog 82 #[.slice a (tlen f) c, .func (.func 69) #[.agg #[.slice la ll lc, .map tm, .map (some mb)]] #[]] w (TysP eb S (evT L f) w) := by
  have M : Hid (∀ w', Ex w w' → MA w' 0 f a) := fun _ h => MA_below hM h
  have I : Hid _ := hK
  have HS : Hid (∀ b, S b → b < w.heap.size) := hS
  have HLN : Hid (tlen f ≤ 100000000) := hl
  clear hM hK hS
  obtain ⟨R, hR⟩ : ∃ R, R = evT L f := ⟨_, rfl⟩
  have RR : Hid (R = evT L f) := hR
  rw [← hR]
  clear hR
  go_enter Tryd.func82, Tryd.ntmps82
  go_wp2_with fail
  go_loopw [6, 8, 9, 10, 13] (fun ov _ _ _ i wr => ∃ (j : Nat) (l : F), j ≤ tlen f ∧ i = .int .i64 j ∧ evTP L f j = some l ∧ len l = j ∧ KR wr w.heap.size S ov l ∧ Ex w wr) (fun _ _ _ _ i _ => tlen f - (intOf i).toNat)
  case atStart => exact ⟨0, .nil, by omega, rfl, rfl, rfl, KR.nil _ _ _, Ex.refl _⟩
  case round =>
    obtain ⟨j, l, hj, rfl, hev, hlen, hvr, hx⟩ := hrel
    have EVP : Hid (evTP L f j = some l) := hev
    have LJ : Hid (len l = j) := hlen
    have E : Hid (Ex w wr) := hx
    obtain ⟨av, ac, rfl, hvs⟩ := hvr.vs
    have VV : Hid (SA wr (fun b => S b ∨ w.heap.size ≤ b) l av) := hvs
    have O : Hid (KR wr w.heap.size S (.slice av (len l) ac) l) := hvr
    clear hx hev hvr hlen hvs
    by_cases hlt : j < tlen f
    · obtain ⟨b, o, rfl, _, hbs, hk⟩ := MA_at (M.out wr E.out) (by omega)
      obtain ⟨e0, e1, e2, ⟨pa, pc, e3, hp'⟩, a', c', e4, hm'⟩ := hk j hlt
      have HI : Hid (∀ w', Ex wr w' → Calls Tryd.prog 69 #[.agg #[.slice la ll lc, .map tm, .map (some mb)], .agg #[.int .i64 (tkind f j), .int .i64 (tnum f j), .string (tname f j), .slice pa (tpath f j).length pc, .slice a' (tlen (tkid f j)) c']] w' (TyP eb S (evTAt L f j) w')) := fun w' h => I.out j hlt pa pc a' c' w' (E.out.trans h) (PA_below (PS_pa.1 hp'.1) h) hp'.2 (MA_below hm' h)
      have V : Hid (evTAt L f j = none → R = none) := fun h => RR.out.trans (evT_none hlt h)
      clear hk hp' hm'
      go_wp2_with fail
      refine Calls.mono (HI.out _ (Ex.new _ _)) ?_
      rintro e w1 ⟨a1, c1', rfl, hV1, hb1⟩
      have E1 : Hid (Ex wr w1) := (Ex.new _ _).trans hb1
      have X1 : Hid (Ex w w1) := E.out.trans E1.out
      clear hb1 HI
      cases hkb : evTAt L f j with
      | none =>
        have HR : Hid (R = none) := V.out hkb
        clear hkb hV1
        simp only [Option.getD_none, Option.isSome_none, errV, Bool.false_eq_true, if_false]
        go_wp2_with fail
        exact bodyPost_ret (v := .tuple #[.slice none 0 0, EV eb]) (by simp [results, Tryd.results82, go_sem]) rfl ⟨none, 0, by rw [HR.out]; rfl, by rw [HR.out]; exact Or.inl rfl, X1.out.trans (Ex.new _ _)⟩
      | some g =>
        rw [hkb] at hV1
        simp only [Option.getD_some] at hV1
        have V1 : Hid (SA w1 (fun b => S b ∨ (wr.alloc (.cells #[.int .i64 (tkind f j), .int .i64 (tnum f j), .string (tname f j), .slice pa (tpath f j).length pc, .slice a' (tlen (tkid f j)) c'] 28)).heap.size ≤ b) g a1) := hV1
        have EV1 : Hid (evTAt L f j = some g) := hkb
        clear hkb hV1
        simp only [Option.getD_some, Option.isSome_some, errV, if_true]
        have E2 : Hid (Ex w ((w1.alloc (.cells #[.slice a1 (len g) c1'] 32)).alloc (.cells #[.slice a1 (len g) c1'] 32))) := (X1.out.alloc _).alloc _
        have O3 : Hid (KR ((w1.alloc (.cells #[.slice a1 (len g) c1'] 32)).alloc (.cells #[.slice a1 (len g) c1'] 32)) w.heap.size S (.slice av (len l) ac) l) := KR.ex O.out ((E1.out.alloc _).alloc _)
        have C20 : Hid (((w1.alloc (.cells #[.slice a1 (len g) c1'] 32)).alloc (.cells #[.slice a1 (len g) c1'] 32)).cell? ⟨w1.heap.size + 1, 0, none⟩ = some (.slice a1 (len g) c1')) := by show _ = _; simp
        have V3 : Hid (SA ((w1.alloc (.cells #[.slice a1 (len g) c1'] 32)).alloc (.cells #[.slice a1 (len g) c1'] 32)) (fun b => (S b ∨ w.heap.size ≤ b) ∧ (Value.slice av (len l) ac).ownBlock ≠ some b) g a1) := SA_mono (SA_ex V1.out ((Ex.new _ _).alloc _)) fun b _ hb => by
          have ho := KR.own O.out
          have hz := E.out.size
          rcases hb with hb | hb
          · exact ⟨Or.inl hb, fun e => by have := (ho b e).1; have := HS.out b hb; omega⟩
          · rw [World.size_alloc] at hb
            exact ⟨Or.inr (by omega), fun e => by have := (ho b e).2; omega⟩
        have j6 : len l ≤ 100000000 := by have := LJ.out; omega
        have EV2 : Hid (evTP L f (j + 1) = some (snoc l 0 g)) := evTP_snoc EVP.out EV1.out
        clear O E V1 EV1 EVP VV
        go_wp2_with (at_builtin; refine wpList_append_type rfl _ _ rfl w E2.out S w.heap.size (Nat.le_refl _) E2.out.size (.slice av (len l) ac) l rfl O3.out (w1.heap.size + 1) 1 g a1 c1' rfl C20.out V3.out j6 ?_)
        intro av3 ac3 w3 hown3 hx3 _
        have O4 : Hid (KR w3 w.heap.size S (.slice av3 (len l + 1) ac3) (snoc l 0 g)) := hown3
        have E3 : Hid (Ex w w3) := hx3
        clear hown3 hx3 O3 E2 C20 V3
        go_wp2_with fail
        go_roundw
        case rel => exact ⟨j + 1, _, by omega, by go_num, EV2.out, by rw [len_snoc, LJ.out], O4.out, E3.out⟩
        case measure => simp [intOf]; omega
    · have hje : j = tlen f := by omega
      have HR : Hid (R = some l) := by
        show _ = _
        rw [RR.out, ← evTP_all, ← hje]; exact EVP.out
      go_wp2_with fail
      exact bodyPost_ret (v := .tuple #[.slice av (len l) ac, .nilIface]) (by simp [results, Tryd.results82, go_sem]) rfl ⟨av, ac, by rw [HR.out]; rfl, by rw [HR.out]; exact VV.out, E.out⟩

set_option maxRecDepth 100000 in
set_option maxHeartbeats 2000000 in
theorem kterms_by (eb : Addr) (S : Nat → Prop) (L : ByteArray → F) (la : Option Addr) (ll lc : Nat) (tm : Option Nat) (mb : Nat) (f : TM) (a : Option Addr) (c : Nat) (w : World) (hM : MA w 0 f a) (hl : tlen f ≤ 100000000) (hS : ∀ b, S b → b < w.heap.size)
    (hK : ∀ j, j < tlen f → ∀ (pa : Option Addr) (pc : Nat) (a' : Option Addr) (c' : Nat) (w' : World), Ex w w' → PA w' 0 (tpath f j) pa → (tpath f j).length ≤ pc ∧ pc ≤ 9223372036854775807 → MA w' 0 (tkid f j) a' → Calls Tryd.prog 69 #[.agg #[.slice la ll lc, .map tm, .map (some mb)], .agg #[.int .i64 (tkind f j), .int .i64 (tnum f j), .string (tname f j), .slice pa (tpath f j).length pc, .slice a' (tlen (tkid f j)) c']] w' (TyP eb S (evTAt L f j) w')) :
    Calls Tryd.prog 74 #[.agg #[.slice la ll lc, .map tm, .map (some mb)], .slice a (tlen f) c] w (TysP eb S (evT L f) w) := by
  have N : Hid (Ex w (w.alloc (.cells #[.slice la ll lc, .map tm, .map (some mb)] 108))) := Ex.new _ _
  have K : Hid (Calls Tryd.prog 82 #[.slice a (tlen f) c, .func (.func 69) #[.agg #[.slice la ll lc, .map tm, .map (some mb)]] #[]] (w.alloc (.cells #[.slice la ll lc, .map tm, .map (some mb)] 108)) (TysP eb S (evT L f) (w.alloc (.cells #[.slice la ll lc, .map tm, .map (some mb)] 108)))) := keach_by eb S L la ll lc tm mb f a c _ (MA_below hM (Ex.new _ _)) hl (fun b hb => Nat.lt_of_lt_of_le (hS b hb) (Ex.new _ _).size) fun j hj pa pc a' c' w' hx => hK j hj pa pc a' c' w' (N.out.trans hx)
  have h0 : (w.alloc (.cells #[.slice la ll lc, .map tm, .map (some mb)] 108)).cell? ⟨w.heap.size, 0, none⟩ = some (.slice la ll lc) := by simp
  have h1 : (w.alloc (.cells #[.slice la ll lc, .map tm, .map (some mb)] 108)).cell? ⟨w.heap.size, 1, none⟩ = some (.map tm) := by simp
  have h2 : (w.alloc (.cells #[.slice la ll lc, .map tm, .map (some mb)] 108)).cell? ⟨w.heap.size, 2, none⟩ = some (.map (some mb)) := by simp
  clear hM hK hS
  obtain ⟨R, hR⟩ : ∃ R, R = evT L f := ⟨_, rfl⟩
  rw [← hR] at K ⊢
  clear hR
  go_enter Tryd.func74, Tryd.ntmps74
  go_wp2_with fail
  refine Calls.mono K.out ?_
  rintro e w1 ⟨a1, c1', rfl, hV1, hb1⟩
  have V1 : Hid _ := hV1
  have X1 : Hid (Ex (w.alloc (.cells #[.slice la ll lc, .map tm, .map (some mb)] 108)) w1) := hb1
  clear hV1 hb1 h0 h1 h2
  go_wp2_with fail
  refine bodyPost_ret (v := .tuple #[.slice a1 (len (R.getD .nil)) c1', errV eb R.isSome]) (by simp [results, Tryd.results74, go_sem]) rfl ⟨a1, c1', rfl, ?_, N.out.trans X1.out⟩
  refine SA_mono V1.out fun b _ hb => ?_
  rcases hb with hb | hb
  · exact Or.inl hb
  · have := N.out.size; exact Or.inr (by omega)

end Go.Proofs.YthdihpcpobhadaaDoor
