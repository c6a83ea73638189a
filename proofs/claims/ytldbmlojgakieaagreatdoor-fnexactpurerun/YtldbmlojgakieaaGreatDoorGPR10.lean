/- Walks: what a term says, by the specification: what is made of others. Walks: what terms say, by the specification, however deep. -/
import Derived.Test.YtldbmlojgakieaaGreatDoorGPRN
import Derived.Test.YtldbmlojgakieaaGreatDoorGW6
import Derived.Deep.CutBlock
namespace Go.Proofs.YtldbmlojgakieaaGreatDoor

open Go.RowKit Go.Deep Go.Maps Go.WideMaps

attribute [local go_sem ↓] Go.wp_at_zero Go.wp_at_succ

theorem EB.turn {w : World} {B : Nat} {lv nv vv : Value} {x y : Bool} (h : EB w B lv nv vv x) : EB (w.setCell ⟨B, 3, none⟩ (.bool y)) B lv nv vv y := by
  unfold EB at *
  simp [World.setCell, Array.getElem?_modify, h]
theorem EB.set {w : World} {B : Nat} {lv nv vv : Value} {x : Bool} (h : EB w B lv nv vv x) {p : Addr} (hp : p.block ≠ B) (v : Value) : EB (w.setCell p v) B lv nv vv x := by
  unfold EB at *
  rw [Below.heap_setCell _ _ _ _ (fun e => hp e.symm)]; exact h
theorem ty_sm {l : F} (h : tyL l) (h2 : len l = 2) : Sm l := by
  have k : ∀ i, i < len l → len (kid l i) ≤ 2 ∧ Sm (kid l i) := fun i hi => by
    have ht := h i hi
    cases hv : vType 4 (num l i) (kid l i) with
    | none => rw [hv] at ht; cases ht
    | some u => exact ⟨(vType_sm _ _ _ _ hv).1, (vType_sm _ _ _ _ hv).2.1⟩
  exact sm_two h2 (k 0 (by omega)) (k 1 (by omega))

theorem fin_ok {B : Nat} {S : Nat → Prop} {lv nv vv : Value} {R O : Option (Int × F)} {bad : Bool} {w w5 : World} {b : Nat} {u : Int} {g : F} {a' : Option Addr} {c' : Nat} {x y : Value} {e : Ending} (hR : R = if bad = true then none else O) (hO : O = some (u, g)) (he : e = .returned (.agg #[.int .i64 u, .slice a' (len g) c'])) (ht : (vType 4 u g).isSome = true)
    (hF : Fr B w w5) (hE : EB w5 B lv nv vv bad) (hV : VS w5 (fun q => S q ∨ b < q) g a') (hS : ∀ q, S q → q < w.heap.size ∧ q ≠ B) (hb : w.heap.size ≤ b) (hB : B < w.heap.size) : SpT B S lv nv vv R w e ((w5.setCell ⟨b, 0, none⟩ x).setCell ⟨b, 1, none⟩ y) := by
  subst hO
  refine ⟨u, g, a', c', he, fun v hv => ?_, ht, VS_mono (VS_ks hV fun q hq _ => ?_) fun q _ hq => ?_, (hF.set (Or.inr (by exact hb)) _).set (Or.inr (by exact hb)) _, ?_⟩
  · rw [hR] at hv
    cases bad with
    | true => cases hv
    | false => cases hv; rfl
  · have hne : q ≠ b := by
      rcases hq with h | h
      · have := (hS q h).1; omega
      · omega
    rw [Below.heap_setCell _ _ _ _ hne, Below.heap_setCell _ _ _ _ hne]
  · rcases hq with h | h
    · exact Or.inl h
    · exact Or.inr (by omega)
  · have e2 : R.isNone = bad := by rw [hR]; cases bad <;> rfl
    rw [e2]
    exact (hE.set (by show b ≠ B; omega) _).set (by show b ≠ B; omega) _
theorem fin_no {B : Nat} {S : Nat → Prop} {lv nv vv : Value} {R O : Option (Int × F)} {bad : Bool} {w w5 : World} {b : Nat} {x y : Value} {e : Ending} (hR : R = if bad = true then none else O) (hO : O = none) (he : e = .returned (.agg #[.int .i64 0, .slice none 0 0]))
    (hF : Fr B w w5) (hE : EB w5 B lv nv vv bad) (hb : w.heap.size ≤ b) (hB : B < w.heap.size) : SpT B S lv nv vv R w e (((w5.setCell ⟨B, 3, none⟩ (.bool true)).setCell ⟨b, 0, none⟩ x).setCell ⟨b, 1, none⟩ y) := by
  subst hO
  have e2 : R = none := by rw [hR]; cases bad <;> rfl
  refine ⟨0, .nil, none, 0, he, (fun v hv => by rw [e2] at hv; cases hv), ty_zero, Or.inl rfl, ((hF.set (Or.inl rfl) _).set (Or.inr (by exact hb)) _).set (Or.inr (by exact hb)) _, ?_⟩
  rw [e2]
  exact (hE.turn.set (by show b ≠ B; omega) _).set (by show b ≠ B; omega) _

set_option maxRecDepth 100000 in
set_option maxHeartbeats 4000000 in
theorem sterm_by (B : Nat) (S : Nat → Prop) (lv nv vv : Value) (L : ByteArray → Int × F) (k n : Int) (s : ByteArray) (p : List Int) (pa : Option Addr) (pc : Nat) (f : TM) (a : Option Addr) (c : Nat) (w : World) (h1 : ¬ k = 1) (h2 : ¬ k = 2) (hB : EB w B lv nv vv false)
    (hM : MS w (fun b => b ≠ B) f a) (hl : tlen f ≤ 100000000) (hS : ∀ b, S b → b < w.heap.size ∧ b ≠ B) (hp : p.length ≤ 1000000000) (hpc : p.length ≤ pc ∧ pc ≤ 9223372036854775807) (hP : PS w (fun b => b ≠ B) p pa) (hsh : (k = 7 ∧ tlen f = 1) ∨ (k ≠ 7 ∧ tlen f = 2))
    (hK : ∀ j, j < tlen f → ∀ (qa : Option Addr) (qc : Nat) (a' : Option Addr) (c' : Nat) (bad' : Bool) (w' : World), Fr B w w' → EB w' B lv nv vv bad' → PS w' (fun b => b ≠ B) (tpath f j) qa → (tpath f j).length ≤ qc ∧ qc ≤ 9223372036854775807 → MS w' (fun b => b ≠ B) (tkid f j) a' → Calls Tryz.prog 74 #[.pointer (some ⟨B, 0, none⟩), .agg #[.int .i64 (tkind f j), .int .i64 (tnum f j), .string (tname f j), .slice qa (tpath f j).length qc, .slice a' (tlen (tkid f j)) c']] w' (SpT B S lv nv vv (if bad' = true then none else evAt L f j) w')) :
    Calls Tryz.prog 74 #[.pointer (some ⟨B, 0, none⟩), .agg #[.int .i64 k, .int .i64 n, .string s, .slice pa p.length pc, .slice a (tlen f) c]] w (SpT B S lv nv vv (oneV L k n s p (evL L f)) w) := by
  have M : Hid (∀ w', Fr B w w' → MS w' (fun b => b ≠ B) f a) := fun _ h => MS_fr hM h
  have P : Hid (∀ w', Fr B w w' → PS w' (fun b => b ≠ B) p pa) := fun _ h => PS_fr hP h
  have I : Hid _ := hK
  have HS : Hid (∀ b, S b → b < w.heap.size ∧ b ≠ B) := hS
  have HLN : Hid (tlen f ≤ 100000000) := hl
  have PL : Hid (p.length ≤ 1000000000 ∧ p.length ≤ pc ∧ pc ≤ 9223372036854775807) := ⟨hp, hpc.1, hpc.2⟩
  have SH : Hid ((k = 7 ∧ tlen f = 1) ∨ (k ≠ 7 ∧ tlen f = 2)) := hsh
  have N : Hid (Ex w ((w.alloc (.cells #[.int .i64 k, .int .i64 n, .string s, .slice pa p.length pc, .slice a (tlen f) c] 121)).alloc (.cells #[.int .i64 0, .slice none 0 0] 55))) := (Ex.new _ _).alloc _
  have zW : ((w.alloc (.cells #[.int .i64 k, .int .i64 n, .string s, .slice pa p.length pc, .slice a (tlen f) c] 121)).alloc (.cells #[.int .i64 0, .slice none 0 0] 55)).heap.size = w.heap.size + 2 := by simp only [World.size_alloc]
  have EB0 : Hid (EB ((w.alloc (.cells #[.int .i64 k, .int .i64 n, .string s, .slice pa p.length pc, .slice a (tlen f) c] 121)).alloc (.cells #[.int .i64 0, .slice none 0 0] 55)) B lv nv vv false) := hB.ex N.out
  obtain ⟨_, _, _, b3⟩ := EB0.out.cell
  have zb : B < w.heap.size := lt_of_block hB
  have ZB : Hid (B < w.heap.size) := zb
  have q1 : (k == 1) = false := by rw [beq_eq_false_iff_ne]; exact h1
  have q2 : (k == 2) = false := by rw [beq_eq_false_iff_ne]; exact h2
  have C : Hid (∀ w', Fr B ((w.alloc (.cells #[.int .i64 k, .int .i64 n, .string s, .slice pa p.length pc, .slice a (tlen f) c] 121)).alloc (.cells #[.int .i64 0, .slice none 0 0] 55)) w' → w'.cell? ⟨w.heap.size, 0, none⟩ = some (.int .i64 k) ∧ w'.cell? ⟨w.heap.size, 3, none⟩ = some (.slice pa p.length pc) ∧ w'.cell? ⟨w.heap.size, 4, none⟩ = some (.slice a (tlen f) c) ∧ w'.heap[w.heap.size + 1]? = some (.cells #[.int .i64 0, .slice none 0 0] 55 (0, 0))) := fun w' h => ⟨h.at (by show w.heap.size ≠ B; omega) ((Ex.new _ _).at (by simp)), h.at (by show w.heap.size ≠ B; omega) ((Ex.new _ _).at (by simp)), h.at (by show w.heap.size ≠ B; omega) ((Ex.new _ _).at (by simp)), h.blk (by show w.heap.size + 1 ≠ B; omega) (heap_alloc_at _ _ (by simp))⟩
  obtain ⟨R, hR⟩ : ∃ R, R = oneV L k n s p (evL L f) := ⟨_, rfl⟩
  have RR : Hid (R = oneV L k n s p (evL L f)) := hR
  rw [← hR]
  have Z0 : Hid (((w.alloc (.cells #[.int .i64 k, .int .i64 n, .string s, .slice pa p.length pc, .slice a (tlen f) c] 121)).alloc (.cells #[.int .i64 0, .slice none 0 0] 55)).heap.size = w.heap.size + 2) := zW
  have ST : Hid (EB (((w.alloc (.cells #[.int .i64 k, .int .i64 n, .string s, .slice pa p.length pc, .slice a (tlen f) c] 121)).alloc (.cells #[.int .i64 0, .slice none 0 0] 55)).alloc (.cells #[] 55)) B lv nv vv false ∧ VR (((w.alloc (.cells #[.int .i64 k, .int .i64 n, .string s, .slice pa p.length pc, .slice a (tlen f) c] 121)).alloc (.cells #[.int .i64 0, .slice none 0 0] 55)).alloc (.cells #[] 55)) (w.heap.size + 2) S (.slice (some ⟨w.heap.size + 2, 0, none⟩) 0 0) .nil) := ⟨EB0.out.ex (Ex.new _ _), by have := VR.empty ((w.alloc (.cells #[.int .i64 k, .int .i64 n, .string s, .slice pa p.length pc, .slice a (tlen f) c] 121)).alloc (.cells #[.int .i64 0, .slice none 0 0] 55)) S; rw [zW] at this; exact this⟩
  have NK : Hid (¬ k = 1 ∧ ¬ k = 2) := ⟨h1, h2⟩
  clear hM hP hK hS hl hp hpc hsh hB hR zW h1 h2
  go_enter Tryz.func74, Tryz.ntmps74
  go_wp2_with fail
  go_loopw [5, 6] (fun ov i wr => ∃ (j : Nat) (l : F), j ≤ tlen f ∧ i = .int .i64 j ∧ len l = j ∧ (∀ v, sP false L f j = some v → v = l) ∧ tyL l ∧ VR wr (w.heap.size + 2) S ov l ∧ Fr B ((w.alloc (.cells #[.int .i64 k, .int .i64 n, .string s, .slice pa p.length pc, .slice a (tlen f) c] 121)).alloc (.cells #[.int .i64 0, .slice none 0 0] 55)) wr ∧ EB wr B lv nv vv (sP false L f j).isNone) (fun _ i _ => tlen f - (intOf i).toNat)
  case atStart => exact ⟨0, .nil, by omega, rfl, rfl, fun v hv => by cases hv; rfl, tyL_nil, ST.out.2, (Fr.refl _ _).alloc _, ST.out.1⟩
  case round =>
    obtain ⟨j, l, hj, rfl, hlen, hev, hty, hvr, hx, hB⟩ := hrel
    have EV0 : Hid (∀ v, sP false L f j = some v → v = l) := hev
    have LJ : Hid (len l = j) := hlen
    have TY : Hid (tyL l) := hty
    have E : Hid (Fr B ((w.alloc (.cells #[.int .i64 k, .int .i64 n, .string s, .slice pa p.length pc, .slice a (tlen f) c] 121)).alloc (.cells #[.int .i64 0, .slice none 0 0] 55)) wr) := hx
    have F0 : Hid (Fr B w wr) := (Fr.of_ex N.out B).trans hx
    have EBR : Hid (EB wr B lv nv vv (sP false L f j).isNone) := hB
    obtain ⟨c0, c3, c4, hres⟩ := C.out wr hx
    have HRES : Hid (wr.heap[w.heap.size + 1]? = some (.cells #[.int .i64 0, .slice none 0 0] 55 (0, 0))) := hres
    obtain ⟨av, ac, rfl, hvs⟩ := hvr.vs
    have VV : Hid (VS wr (fun b => S b ∨ w.heap.size + 2 ≤ b) l av) := hvs
    have O : Hid (VR wr (w.heap.size + 2) S (.slice av (len l) ac) l) := hvr
    clear hx hev hty hvr hlen hvs hB hres
    by_cases hlt : j < tlen f
    · obtain ⟨b, o, ha, hbB, hbs, hk⟩ := MS_at (M.out wr F0.out) (by omega)
      obtain ⟨e0, e1, e2, ⟨qa, qc, e3, hp'⟩, a', c', e4, hm'⟩ := hk j hlt
      have HI : Hid (Calls Tryz.prog 74 #[.pointer (some ⟨B, 0, none⟩), .agg #[.int .i64 (tkind f j), .int .i64 (tnum f j), .string (tname f j), .slice qa (tpath f j).length qc, .slice a' (tlen (tkid f j)) c']] wr (SpT B S lv nv vv (if (sP false L f j).isNone = true then none else evAt L f j) wr)) := I.out j hlt qa qc a' c' _ wr F0.out EBR.out hp'.1 hp'.2 hm'
      rw [ha] at c4
      clear hk hp' hm' hbB ha
      go_wp2_with fail
      refine Calls.mono HI.out ?_
      rintro e w1 ⟨u, g, a1, c1', rfl, hu, ht, hV1, hF1, hB1⟩
      have EVN : Hid (∀ v, sP false L f (j + 1) = some v → v = snoc l u g) := sP_some EV0.out hu
      have TYN : Hid (tyL (snoc l u g)) := tyL_snoc TY.out ht
      have FN : Hid (Fr B ((w.alloc (.cells #[.int .i64 k, .int .i64 n, .string s, .slice pa p.length pc, .slice a (tlen f) c] 121)).alloc (.cells #[.int .i64 0, .slice none 0 0] 55)) w1) := E.out.trans hF1
      have EBN : Hid (EB w1 B lv nv vv (sP false L f (j + 1)).isNone) := by
        show EB _ _ _ _ _ _
        rw [← sP_none]; exact hB1
      have JL : Hid (j < tlen f) := hlt
      have NB : ¬ S B := fun h => (HS.out B h).2 rfl
      have O2 : Hid (VR (w1.alloc (.cells #[.int .i64 u, .slice a1 (len g) c1'] 55)) (w.heap.size + 2) S (.slice av (len l) ac) l) := (VR.fr O.out hF1 (by have := ZB.out; omega) NB).ex (Ex.new _ _)
      have C20 : Hid ((w1.alloc (.cells #[.int .i64 u, .slice a1 (len g) c1'] 55)).cell? ⟨w1.heap.size, 0, none⟩ = some (.int .i64 u)) := by show _ = _; simp
      have C21 : Hid ((w1.alloc (.cells #[.int .i64 u, .slice a1 (len g) c1'] 55)).cell? ⟨w1.heap.size, 1, none⟩ = some (.slice a1 (len g) c1')) := by show _ = _; simp
      have V3 : Hid (VS (w1.alloc (.cells #[.int .i64 u, .slice a1 (len g) c1'] 55)) (fun b => (S b ∨ w.heap.size + 2 ≤ b) ∧ (Value.slice av (len l) ac).ownBlock ≠ some b) g a1) := VS_mono (VS_ex hV1 (Ex.new _ _)) fun b _ hb => by
        have ho := VR.own O.out
        have hz := E.out.size
        rw [Z0.out] at hz
        rcases hb with hb | hb
        · exact ⟨Or.inl hb, fun e => by have := (ho b e).1; have := (HS.out b hb).1; omega⟩
        · exact ⟨Or.inr (by omega), fun e => by have := (ho b e).2; omega⟩
      have FA : Hid (Fr B ((w.alloc (.cells #[.int .i64 k, .int .i64 n, .string s, .slice pa p.length pc, .slice a (tlen f) c] 121)).alloc (.cells #[.int .i64 0, .slice none 0 0] 55)) (w1.alloc (.cells #[.int .i64 u, .slice a1 (len g) c1'] 55))) := FN.out.alloc _
      have BS : Hid (((w.alloc (.cells #[.int .i64 k, .int .i64 n, .string s, .slice pa p.length pc, .slice a (tlen f) c] 121)).alloc (.cells #[.int .i64 0, .slice none 0 0] 55)).heap.size ≤ w.heap.size + 2 ∧ w.heap.size + 2 ≤ (w1.alloc (.cells #[.int .i64 u, .slice a1 (len g) c1'] 55)).heap.size) := ⟨by rw [Z0.out]; exact Nat.le_refl _, by have := FA.out.size; rw [Z0.out] at this; exact this⟩
      have j6 : len l ≤ 100000000 := by have := LJ.out; have := HLN.out; omega
      clear hu ht hV1 hF1 hB1 O E F0 EBR VV HI EV0 TY NB HRES
      go_wp2_with (at_builtin; refine wpList_append_valF rfl _ _ rfl B ((w.alloc (.cells #[.int .i64 k, .int .i64 n, .string s, .slice pa p.length pc, .slice a (tlen f) c] 121)).alloc (.cells #[.int .i64 0, .slice none 0 0] 55)) FA.out S (w.heap.size + 2) BS.out.1 BS.out.2 (.slice av (len l) ac) l rfl O2.out w1.heap.size 1 u g a1 c1' rfl C20.out C21.out V3.out j6 ?_)
      intro av3 ac3 w3 hown3 hx3 hk3
      have O4 : Hid (VR w3 (w.heap.size + 2) S (.slice av3 (len l + 1) ac3) (snoc l u g)) := hown3
      have F3 : Hid (Fr B ((w.alloc (.cells #[.int .i64 k, .int .i64 n, .string s, .slice pa p.length pc, .slice a (tlen f) c] 121)).alloc (.cells #[.int .i64 0, .slice none 0 0] 55)) w3) := hx3
      have EB3 : Hid (EB w3 B lv nv vv (sP false L f (j + 1)).isNone) := (hk3 B (by have := ZB.out; omega)).trans (EBN.out.ex (Ex.new _ _))
      clear hown3 hx3 hk3 O2 C20 C21 V3 FA EBN BS
      have jl : j < tlen f := JL.out
      have fl : tlen f ≤ 100000000 := HLN.out
      go_wp2_with fail
      go_roundw
      case rel => exact ⟨j + 1, _, by have := JL.out; omega, by go_num, by rw [len_snoc, LJ.out], EVN.out, TYN.out, O4.out, F3.out, EB3.out⟩
      case measure => have := JL.out; simp [intOf]; omega
    · have JE : Hid (j = tlen f) := by
        show _ = _
        omega
      have EVL : Hid (∀ v, evL L f = some v → v = l) := fun v hv => EV0.out v (by rw [JE.out, sP_all]; exact hv)
      have LL : Hid (len l = tlen f) := by
        show _ = _
        rw [LJ.out, JE.out]
      have EBL : Hid (EB wr B lv nv vv (evL L f).isNone) := by
        have := EBR.out
        rw [JE.out, sP_all] at this
        exact this
      obtain ⟨bad, hbad⟩ : ∃ bad, (evL L f).isNone = bad := ⟨_, rfl⟩
      have BAD : Hid ((evL L f).isNone = bad) := hbad
      rw [hbad] at EBL
      have RB : Hid (R = if bad = true then none else opV k p l) := by
        show _ = _
        have hr := RR.out
        cases he : evL L f with
        | none => rw [he] at hbad hr; cases hbad; exact hr
        | some l0 =>
          have e0 := EVL.out l0 he
          rw [he] at hbad hr
          cases hbad
          subst e0
          rw [hr]
          simp only [oneV]
          rw [if_neg NK.out.1, if_neg NK.out.2]; rfl
      clear hbad EBR EV0 LJ I ST EB0 RR
      obtain ⟨x0, x1, x2, x3⟩ := EBL.out.cell
      have zr : w.heap.size + 1 < wr.heap.size := lt_of_block HRES.out
      have zr0 : w.heap.size < wr.heap.size := by omega
      have r0 := two_cell0 HRES.out
      have r1 := two_cell1 HRES.out
      have r2 := two_free (i := 0) HRES.out
      have r3 := two_free (i := 1) HRES.out
      have SMK : Hid (∀ i, i < len l → len (kid l i) ≤ 1000000000 ∧ Sm (kid l i)) := fun i hi => by
        have ht := TY.out i hi
        cases hv : vType 4 (num l i) (kid l i) with
        | none => rw [hv] at ht; cases ht
        | some u => exact ⟨by have := (vType_sm _ _ _ _ hv).1; omega, (vType_sm _ _ _ _ hv).2.1⟩
      have PP : Hid (∀ w', Ex wr w' → PA w' 0 p pa) := fun w' h => PS_pa.1 (PS_mono (P.out w' (F0.out.ex h)) fun _ _ _ => Nat.zero_le _)
      go_upto_block 3 with fail
      go_cut [8] from 48 to 111 (fun x8 wx => ∃ (u : Int) (g : F) (ok : Bool) (a5 : Option Addr) (k5 : Nat), x8 = .bool ok ∧ mkV ((u, g), ok) = opV k p l ∧ (ok = true → (vType 4 u g).isSome = true) ∧ wx.heap[wr.heap.size]? = some (.cells #[.int .i64 u, .slice a5 (len g) k5] 55 (0, 0)) ∧ VS wx (fun q => S q ∨ w.heap.size + 1 < q) g a5 ∧ Ex wr wx)
      case first =>
        by_cases k6 : k = 6
        · have q6 : (k == 6) = true := by rw [beq_iff_eq]; exact k6
          have q7 : (k == 7) = false := by rw [beq_eq_false_iff_ne]; omega
          have q8 : (k == 8) = false := by rw [beq_eq_false_iff_ne]; omega
          have L2 : Hid (len l = 2) := by
            have := LL.out
            have := SH.out
            show _ = _
            omega
          have IA : Hid (∀ w', Ex wr w' → Calls Tryz.prog 22 #[.agg #[.int .i64 0, .slice av (len l) ac]] w' fun e w'' => e = .returned (.bool (vType 4 0 l).isSome) ∧ Ex w' w'') := fun w' h => l1Any_any 0 l av ac 0 w' (by rw [L2.out]; omega) (ty_sm TY.out L2.out) (VS_mono (VS_ex VV.out h) fun _ _ _ => Nat.zero_le _)
          obtain ⟨z, hz⟩ : ∃ z, (vType 4 0 l).isSome = z := ⟨_, rfl⟩
          have HZ : Hid ((vType 4 0 l).isSome = z) := hz
          have OP : Hid (mkV ((0, l), z) = opV k p l) := by show _ = _; unfold opV okV mkV; rw [if_pos k6, hz]
          rw [hz] at IA
          clear hz k6
          go_wp2_with fail
          refine Calls.mono (IA.out _ (Ex.new _ _)) ?_
          rintro e w5 ⟨rfl, hb5⟩
          go_wp2_with fail
          go_meet
          refine ⟨0, l, z, av, ac, rfl, OP.out, fun h => HZ.out.trans h, hb5.blk (heap_alloc_at _ _ rfl), VS_mono (VS_ex VV.out ((Ex.new _ _).trans hb5)) fun q _ hq => ?_, (Ex.new _ _).trans hb5⟩
          rcases hq with h | h
          · exact Or.inl h
          · exact Or.inr (by omega)
        · by_cases k7 : k = 7
          · have q7 : (k == 7) = true := by rw [beq_iff_eq]; exact k7
            have L1 : Hid (0 < len l) := by
              have := LL.out
              have := SH.out
              show _ < _
              omega
            obtain ⟨b, o, a0, k0, hav, n0, m0, hV0⟩ := VS_one VV.out L1.out
            have hl0 : (0 : Int) < (len l : Int) := by have := L1.out; omega
            have IA : Hid (∀ w', Ex wr w' → Calls Tryz.prog 93 #[.agg #[.int .i64 (num l 0), .slice a0 (len (kid l 0)) k0], .slice pa p.length pc] w' (VAtPost (num l 0) (kid l 0) p w')) := fun w' h => sValAt_any _ _ p a0 k0 pa pc 0 w' PL.out.1 (SMK.out 0 L1.out).1 (SMK.out 0 L1.out).2 (VS_mono (VS_ex hV0 h) fun _ _ _ => Nat.zero_le _) (PP.out w' h)
            have OP : Hid (opV k p l = mkV (valAtR (num l 0) (kid l 0) p)) := by show _ = _; unfold opV; rw [if_neg k6, if_pos k7]
            have TQ : Hid ((valAtR (num l 0) (kid l 0) p).2 = true → (vType 4 (valAtR (num l 0) (kid l 0) p).1.1 (valAtR (num l 0) (kid l 0) p).1.2).isSome = true) := fun h => by
              obtain ⟨_, _, _, x, _, _, hx, _, e⟩ := valAt_ok h
              rw [e, hx]; rfl
            unfold VAtPost at IA
            obtain ⟨Q, hQ⟩ : ∃ Q, Q = valAtR (num l 0) (kid l 0) p := ⟨_, rfl⟩
            rw [← hQ] at IA OP TQ
            obtain ⟨⟨u, g⟩, ok⟩ := Q
            dsimp only at IA TQ
            have zb : b < wr.heap.size := World.block_lt_of_cell? _ _ n0
            subst hav
            clear hQ hV0 k6 k7
            go_wp2_with fail
            go_region_with (go_at_call 93; refine (IA.out _ ((Ex.new _ _).drew)).mono ?_; rintro e w5 ⟨a5, k5, rfl, hV5, hb5⟩; have xb : Ex (wr.alloc (.cells #[.int .i64 0, .slice none 0 0] 55)) w5 := Ex.trans (Ex.refl _).drew hb5; have hv5 : w5.heap[wr.heap.size]? = some (.cells #[.int .i64 0, .slice none 0 0] 55 (0, 0)) := xb.blk (heap_alloc_at _ _ rfl); have v0' := two_cell0 hv5; have v1' := two_cell1 hv5; have v2' := two_free (i := 0) hv5; have v3' := two_free (i := 1) hv5)
            all_goals
              go_wp2_with fail
              go_meet
              refine ⟨u, g, ok, a5, k5, rfl, OP.out.symm, TQ.out, two_set hv5, VS_mono (VS_ks hV5 fun q hq _ => ?_) fun q _ hq => Or.inr ?_, (((Ex.new _ _).trans xb).set (by exact Nat.le_refl _) _).set (by exact Nat.le_refl _) _⟩
              · have hq' : wr.heap.size + 1 ≤ q := by have := hq; simpa [World.size_alloc] using this
                rw [Below.heap_setCell _ _ _ _ (by show q ≠ wr.heap.size; omega), Below.heap_setCell _ _ _ _ (by show q ≠ wr.heap.size; omega)]
              · have hq' : wr.heap.size + 1 ≤ q := by have := hq; simpa [World.size_alloc] using this
                omega
          · by_cases k8 : k = 8
            · have q7 : (k == 7) = false := by rw [beq_eq_false_iff_ne]; exact k7
              have q8 : (k == 8) = true := by rw [beq_iff_eq]; exact k8
              have L2 : Hid (len l = 2) := by
                have := LL.out
                have := SH.out
                show _ = _
                omega
              obtain ⟨b, o, a0, k0, a1, k1, hav, n0, m0, n1, m1, hV0, hV1⟩ := VS_pair VV.out L2.out
              have hl0 : (0 : Int) < (len l : Int) := by have := L2.out; omega
              have hl1 : (1 : Int) < (len l : Int) := by have := L2.out; omega
              have IA : Hid (∀ w', Ex wr w' → Calls Tryz.prog 94 #[.agg #[.int .i64 (num l 0), .slice a0 (len (kid l 0)) k0], .slice pa p.length pc, .agg #[.int .i64 (num l 1), .slice a1 (len (kid l 1)) k1]] w' (SPutPost (valPutR (num l 0) (kid l 0) p (num l 1) (kid l 1)) w')) := fun w' h => sValPut_any _ _ p _ _ a0 a1 pa k0 k1 pc 0 0 w' PL.out.1 PL.out.2.1 PL.out.2.2 (SMK.out 0 (by have := L2.out; omega)).1 (SMK.out 0 (by have := L2.out; omega)).2 (SMK.out 1 (by have := L2.out; omega)).1 (SMK.out 1 (by have := L2.out; omega)).2 (VS_mono (VS_ex hV0 h) fun _ _ _ => Nat.zero_le _) (VS_mono (VS_ex hV1 h) fun _ _ _ => Nat.zero_le _) (PP.out w' h)
              have OP : Hid (opV k p l = mkV (valPutR (num l 0) (kid l 0) p (num l 1) (kid l 1))) := by show _ = _; unfold opV; rw [if_neg k6, if_neg k7, if_pos k8]
              have TQ : Hid ((valPutR (num l 0) (kid l 0) p (num l 1) (kid l 1)).2 = true → (vType 4 (valPutR (num l 0) (kid l 0) p (num l 1) (kid l 1)).1.1 (valPutR (num l 0) (kid l 0) p (num l 1) (kid l 1)).1.2).isSome = true) := put_ty
              obtain ⟨Q, hQ⟩ : ∃ Q, Q = valPutR (num l 0) (kid l 0) p (num l 1) (kid l 1) := ⟨_, rfl⟩
              rw [← hQ] at IA OP TQ
              obtain ⟨⟨u, g⟩, ok⟩ := Q
              unfold SPutPost at IA
              dsimp only at IA TQ
              have zb : b < wr.heap.size := World.block_lt_of_cell? _ _ n0
              subst hav
              clear hQ hV0 hV1 k6 k7 k8
              go_wp2_with fail
              go_region_with (go_at_call 94; refine (IA.out _ ((Ex.new _ _).drew)).mono ?_; rintro e w5 ⟨a5, k5, rfl, hV5, hb5⟩; have xb : Ex (wr.alloc (.cells #[.int .i64 0, .slice none 0 0] 55)) w5 := Ex.trans (Ex.refl _).drew hb5; have hv5 : w5.heap[wr.heap.size]? = some (.cells #[.int .i64 0, .slice none 0 0] 55 (0, 0)) := xb.blk (heap_alloc_at _ _ rfl); have v0' := two_cell0 hv5; have v1' := two_cell1 hv5; have v2' := two_free (i := 0) hv5; have v3' := two_free (i := 1) hv5)
              all_goals
                go_wp2_with fail
                go_meet
                refine ⟨u, g, ok, a5, k5, rfl, OP.out.symm, TQ.out, two_set hv5, VS_mono (VS_ks hV5 fun q hq _ => ?_) fun q _ hq => Or.inr ?_, (((Ex.new _ _).trans xb).set (by exact Nat.le_refl _) _).set (by exact Nat.le_refl _) _⟩
                · have hq' : wr.heap.size + 1 ≤ q := by have := hq; simpa [World.size_alloc] using this
                  rw [Below.heap_setCell _ _ _ _ (by show q ≠ wr.heap.size; omega), Below.heap_setCell _ _ _ _ (by show q ≠ wr.heap.size; omega)]
                · have hq' : wr.heap.size + 1 ≤ q := by have := hq; simpa [World.size_alloc] using this
                  omega
            · have q6 : (k == 6) = false := by rw [beq_eq_false_iff_ne]; exact k6
              have q7 : (k == 7) = false := by rw [beq_eq_false_iff_ne]; exact k7
              have q8 : (k == 8) = false := by rw [beq_eq_false_iff_ne]; exact k8
              have L2 : Hid (len l = 2) := by
                have := LL.out
                have := SH.out
                have := NK.out
                show _ = _
                omega
              obtain ⟨b, o, a0, k0, a1, k1, hav, n0, m0, n1, m1, _, _⟩ := VS_pair VV.out L2.out
              have hl0 : (0 : Int) < (len l : Int) := by have := L2.out; omega
              have hl1 : (1 : Int) < (len l : Int) := by have := L2.out; omega
              have t0 := ty_num TY.out (i := 0) (by have := L2.out; omega)
              have t1 := ty_num TY.out (i := 1) (by have := L2.out; omega)
              have IA : Hid (∀ w', Calls Tryz.prog 95 #[.int .i64 k, .int .i64 (num l 0), .int .i64 (num l 1)] w' fun e w'' => e = .returned (.tuple #[.int .i64 (opN k (num l 0) (num l 1)).1, .bool (opN k (num l 0) (num l 1)).2]) ∧ Ex w' w'') := fun w' => l11Op_any k _ _ w' t0 t1
              obtain ⟨s0, hs0⟩ : ∃ s, (((len (kid l 0) : Nat) : Int) + ((len (kid l 1) : Nat) : Int) == 0) = s := ⟨_, rfl⟩
              have OP : Hid (opV k p l = mkV (((opN k (num l 0) (num l 1)).1, .nil), (opN k (num l 0) (num l 1)).2 && s0)) := by
                show _ = _
                unfold opV
                rw [if_neg k6, if_neg k7, if_neg k8, ← hs0]
                exact (num_op t0 t1).symm
              have TQ : Hid (∀ u, opV k p l = some (u, .nil) → (vType 4 u .nil).isSome = true) := fun u h => by
                unfold opV at h
                rw [if_neg k6, if_neg k7, if_neg k8] at h
                exact num_ty h
              obtain ⟨Q, hQ⟩ : ∃ Q, Q = opN k (num l 0) (num l 1) := ⟨_, rfl⟩
              rw [← hQ] at IA OP
              obtain ⟨u, cn⟩ := Q
              dsimp only at IA OP
              have zb : b < wr.heap.size := World.block_lt_of_cell? _ _ n0
              subst hav
              clear hQ k6 k7 k8 t0 t1
              cases cn with
              | false =>
                go_wp2_with fail
                go_region_with (go_at_call 95; refine (IA.out _).mono ?_; rintro e w5 ⟨rfl, hb5⟩; have xb : Ex (wr.alloc (.cells #[.int .i64 0, .slice none 0 0] 55)) w5 := Ex.trans (Ex.refl _).drew hb5; have hv5 : w5.heap[wr.heap.size]? = some (.cells #[.int .i64 0, .slice none 0 0] 55 (0, 0)) := xb.blk (heap_alloc_at _ _ rfl); have v0' := two_cell0 hv5; have v1' := two_cell1 hv5; have v2' := two_free (i := 0) hv5; have v3' := two_free (i := 1) hv5)
                all_goals
                  go_wp2_with fail
                  go_region
                  all_goals
                    go_wp2_with fail
                    go_meet
                    refine ⟨u, .nil, false, none, 0, rfl, OP.out.symm, fun h => (by cases h), two_set hv5, Or.inl rfl, ?_⟩
                    first | exact ((((Ex.new _ _).trans xb).set (by exact Nat.le_refl _) _).set (by exact Nat.le_refl _) _).drew | exact (((Ex.new _ _).trans xb).set (by exact Nat.le_refl _) _).set (by exact Nat.le_refl _) _
              | true =>
                have TQ2 : Hid (s0 = true → (vType 4 u .nil).isSome = true) := fun h => TQ.out u (by rw [OP.out, h]; rfl)
                have nb : b ≠ wr.heap.size := by omega
                have HS0 : Hid (Value.bool (wrap64 (((len (kid l 0) : Nat) : Int) + ((len (kid l 1) : Nat) : Int)) == 0) = Value.bool s0) := by
                  have h1 := (SMK.out 0 (by have := L2.out; omega)).1
                  have h2 := (SMK.out 1 (by have := L2.out; omega)).1
                  show _ = _
                  rw [IntWalk.wrap64_in _ (by omega), hs0]
                go_wp2_with fail
                go_region_with (go_at_call 95; refine (IA.out _).mono ?_; rintro e w5 ⟨rfl, hb5⟩; have xb : Ex (wr.alloc (.cells #[.int .i64 0, .slice none 0 0] 55)) w5 := Ex.trans (Ex.refl _).drew hb5; have hv5 : w5.heap[wr.heap.size]? = some (.cells #[.int .i64 0, .slice none 0 0] 55 (0, 0)) := xb.blk (heap_alloc_at _ _ rfl); have v0' := two_cell0 hv5; have v1' := two_cell1 hv5; have v2' := two_free (i := 0) hv5; have v3' := two_free (i := 1) hv5; have y0 := xb.at ((Ex.new _ _).at m0); have y1 := xb.at ((Ex.new _ _).at m1))
                all_goals
                  go_wp2_with fail
                  have hb6 := two_set (u' := .int .i64 u) (v' := .slice none 0 0) hv5
                  have w0' := two_cell0 hb6
                  have w1' := two_cell1 hb6
                  have w2' := two_free (i := 0) hb6
                  have w3' := two_free (i := 1) hb6
                  go_region
                  all_goals
                    go_wp2_with fail
                    go_meet
                    refine ⟨u, .nil, s0, none, 0, HS0.out, OP.out.symm, TQ2.out, hb6, Or.inl rfl, ?_⟩
                    first | exact ((((Ex.new _ _).trans xb).set (by exact Nat.le_refl _) _).set (by exact Nat.le_refl _) _).drew | exact (((Ex.new _ _).trans xb).set (by exact Nat.le_refl _) _).set (by exact Nat.le_refl _) _
      case rest =>
        rename World => W2
        obtain ⟨u, g, ok, a5, k5, rfl, hO, hty, hvb, hVg, hxx⟩ := hcut
        have X5 : Hid (Ex wr W2) := hxx
        have OO : Hid (mkV ((u, g), ok) = opV k p l) := hO
        have TYV : Hid (ok = true → (vType 4 u g).isSome = true) := hty
        have VB : Hid (W2.heap[wr.heap.size]? = some (.cells #[.int .i64 u, .slice a5 (len g) k5] 55 (0, 0))) := hvb
        have V5 : Hid (VS W2 (fun q => S q ∨ w.heap.size + 1 < q) g a5) := hVg
        have y0 := two_cell0 hvb
        have y1 := two_cell1 hvb
        have E5 : Hid (EB W2 B lv nv vv bad) := EBL.out.ex X5.out
        obtain ⟨z0, z1, z2, z3⟩ := E5.out.cell
        have fr3 : W2.frozen? ⟨B, 3, none⟩ = false := by have h := E5.out; unfold EB at h; simp [World.frozen?, h]
        have hr5 : Hid (W2.heap[w.heap.size + 1]? = some (.cells #[.int .i64 0, .slice none 0 0] 55 (0, 0))) := X5.out.blk HRES.out
        have F5 : Hid (Fr B w W2) := F0.out.ex X5.out
        have NE : Hid (w.heap.size + 1 ≠ B) := by have := ZB.out; show _ ≠ _; omega
        clear r0 r1 r2 r3 x0 x1 x2 x3 hO hty hvb hVg hxx
        have r0 := two_cell0 hr5.out
        have r1 := two_cell1 hr5.out
        have r2 := two_free (i := 0) hr5.out
        have r3 := two_free (i := 1) hr5.out
        cases ok with
        | true =>
          have OK : Hid (opV k p l = some (u, g)) := OO.out.symm
          have TYU : Hid ((vType 4 u g).isSome = true) := TYV.out rfl
          go_wp2_with fail
          have hb3 := two_set (u' := .int .i64 u) (v' := .slice a5 (len g) k5) hr5.out
          have s0 := two_cell0 hb3
          have s1 := two_cell1 hb3
          refine bodyPost_ret (v := .agg #[.int .i64 u, .slice a5 (len g) k5]) (by simp [results, Tryz.results74, go_sem, s0, s1]) rfl ?_
          exact fin_ok RB.out OK.out rfl TYU.out F5.out E5.out V5.out HS.out (by omega) ZB.out
        | false =>
          have OK : Hid (opV k p l = none) := OO.out.symm
          have hr6 : (W2.setCell ⟨B, 3, none⟩ (.bool true)).heap[w.heap.size + 1]? = some (.cells #[.int .i64 0, .slice none 0 0] 55 (0, 0)) := by rw [Below.heap_setCell _ _ _ _ NE.out]; exact hr5.out
          have g0 := two_cell0 hr6
          have g1 := two_cell1 hr6
          have g2 := two_free (i := 0) hr6
          have g3 := two_free (i := 1) hr6
          go_wp2_with fail
          have hb3 := two_set (u' := .int .i64 0) (v' := .slice none 0 0) hr6
          have s0 := two_cell0 hb3
          have s1 := two_cell1 hb3
          refine bodyPost_ret (v := .agg #[.int .i64 0, .slice none 0 0]) (by simp [results, Tryz.results74, go_sem, s0, s1]) rfl ?_
          exact fin_no RB.out OK.out rfl F5.out E5.out (by omega) ZB.out

end Go.Proofs.YtldbmlojgakieaaGreatDoor

namespace Go.Proofs.YtldbmlojgakieaaGreatDoor

open Go.RowKit Go.Deep Go.Maps Go.WideMaps

theorem XS_fr {w w' : World} {B : Nat} {p : List ByteArray} {a : Option Addr} (h : XS w (fun b => b ≠ B) p a) (hx : Fr B w w') : XS w' (fun b => b ≠ B) p a := XS_ks h fun b hs hlt => hx.block b hlt hs

theorem leaf_ev {L : ByteArray → Int × F} {k n : Int} {s : ByteArray} {p : List Int} {f : TM} (h : tokB k n s p (tlen f) = true) (hk : k = 1 ∨ k = 2) : evL L f = some .nil := by
  have h0 : tlen f = 0 := by
    rcases hk with rfl | rfl
    · rw [tokB_1] at h
      simp only [Bool.and_eq_true, decide_eq_true_eq] at h
      exact h.2.2.1
    · rw [tokB_2] at h
      simp only [Bool.and_eq_true, decide_eq_true_eq] at h
      exact h.2.2
  cases f with
  | nil => rfl
  | node _ _ d g r => simp [tlen] at h0
theorem two_shape {k n : Int} {s : ByteArray} {p : List Int} {l : Nat} (h : tokB k n s p l = true) (h1 : ¬ k = 1) (h2 : ¬ k = 2) : (k = 7 ∧ l = 1) ∨ (k ≠ 7 ∧ l = 2) := by
  by_cases h6 : k = 6
  · rw [tokB_3 (Or.inr (Or.inr (Or.inr h6)))] at h
    simp only [Bool.and_eq_true, decide_eq_true_eq] at h
    exact Or.inr ⟨by omega, h.2.2.2⟩
  · rcases (tok_shape h).2.2 with e | e | e | e | e
    · exact absurd e h1
    · exact absurd e h2
    · exact absurd e h6
    · exact Or.inl e
    · exact Or.inr e

theorem sterm_all (B : Nat) (T S : Nat → Prop) (hT : ¬ T B) (lv : Value) (ns : List ByteArray) (vs : F) (na va : Option Addr) (nc vc : Nat) (hl : ns.length ≤ 1000000000) (hlen : len vs = ns.length) (hty : ∀ s, tyV (getE ns vs s ns.length)) (ms : List ByteArray) : ∀ (d : Nat) (f : TM), kidsB ms d f = true → TSm f → TLm f → ∀ j, j < tlen f →
    ∀ (pa : Option Addr) (pc : Nat) (a' : Option Addr) (c' : Nat) (bad : Bool) (w : World), EB w B lv (.slice na ns.length nc) (.slice va (len vs) vc) bad → XS w (fun b => b ≠ B) ns na → VTop w T S vs va → (∀ b, S b → b < w.heap.size ∧ b ≠ B) → PS w (fun b => b ≠ B) (tpath f j) pa → (tpath f j).length ≤ pc ∧ pc ≤ 9223372036854775807 → MS w (fun b => b ≠ B) (tkid f j) a' →
    Calls Tryz.prog 74 #[.pointer (some ⟨B, 0, none⟩), .agg #[.int .i64 (tkind f j), .int .i64 (tnum f j), .string (tname f j), .slice pa (tpath f j).length pc, .slice a' (tlen (tkid f j)) c']] w (SpT B S lv (.slice na ns.length nc) (.slice va (len vs) vc) (if bad = true then none else evAt (fun s => getE ns vs s ns.length) f j) w) := by
  intro d
  induction d with
  | zero =>
    intro f hk _ _ j hj
    rw [kids_zero hk] at hj; omega
  | succ d ih =>
    intro f hk hsm hlm j hj pa pc a' c' bad w hB hX hV hS hp hpc hm
    obtain ⟨g1, g2, g3⟩ := TSm_kid hsm j hj
    obtain ⟨h1, h2, h3, h4⟩ := TLm_at hlm j hj
    obtain ⟨t1, t2, _⟩ := kid_tok hk hj
    obtain ⟨s1, s2, s3⟩ := tok_shape t1
    cases bad with
    | true => exact sterm_bad B S lv _ _ _ _ _ _ pa pc _ a' c' w hB
    | false =>
      rw [if_neg (by simp)]
      show Calls _ _ _ _ (SpT B S lv _ _ (oneV _ (tkind f j) (tnum f j) (tname f j) (tpath f j) (evL _ (tkid f j))) w)
      by_cases k1 : tkind f j = 1
      · rw [k1]
        have e : oneV (fun s => getE ns vs s ns.length) 1 (tnum f j) (tname f j) (tpath f j) (evL (fun s => getE ns vs s ns.length) (tkid f j)) = some (tnum f j, .nil) := by
          rw [leaf_ev t1 (Or.inl k1)]; rfl
        rw [e]
        exact sterm_num B S lv _ _ _ (s1 k1) _ _ pa pc _ a' c' w hB
      · by_cases k2 : tkind f j = 2
        · rw [k2]
          have e : oneV (fun s => getE ns vs s ns.length) 2 (tnum f j) (tname f j) (tpath f j) (evL (fun s => getE ns vs s ns.length) (tkid f j)) = some (getE ns vs (tname f j) ns.length) := by
            rw [leaf_ev t1 (Or.inr k2)]; rfl
          rw [e]
          exact sterm_name B T S lv ns vs na va nc vc _ _ _ pa pc _ a' c' w hB hl hlen hS (XS_mono hX fun _ _ _ => Nat.zero_le _) hV (hty _)
        · have hsh : (tkind f j = 7 ∧ tlen (tkid f j) = 1) ∨ (tkind f j ≠ 7 ∧ tlen (tkid f j) = 2) := two_shape t1 k1 k2
          exact sterm_by B S lv _ _ _ _ _ _ _ pa pc _ a' c' w k1 k2 hB hm (by omega) hS g1 hpc hp hsh fun i hi qa qc b' e' bad' w' hf hB' hp' hpc' hm' =>
            ih (tkid f j) t2 g3 h4 i hi qa qc b' e' bad' w' hB' (XS_fr hX hf) (VTop_fr hV hf hT fun h => (hS B h).2 rfl) (fun q hq => ⟨Nat.lt_of_lt_of_le (hS q hq).1 hf.size, (hS q hq).2⟩) hp' hpc' hm'

/-- What terms say. -/
theorem sterms_any (B : Nat) (T S : Nat → Prop) (hT : ¬ T B) (lv : Value) (ns : List ByteArray) (vs : F) (na va : Option Addr) (nc vc : Nat) (hl : ns.length ≤ 1000000000) (hlen : len vs = ns.length) (hty : ∀ s, tyV (getE ns vs s ns.length)) (ms : List ByteArray) (d : Nat) (f : TM) (hk : kidsB ms d f = true) (hsm : TSm f) (hlm : TLm f) (hfl : tlen f ≤ 100000000)
    (a : Option Addr) (c : Nat) (bad : Bool) (w : World) (hB : EB w B lv (.slice na ns.length nc) (.slice va (len vs) vc) bad) (hX : XS w (fun b => b ≠ B) ns na) (hV : VTop w T S vs va) (hS : ∀ b, S b → b < w.heap.size ∧ b ≠ B) (hM : MS w (fun b => b ≠ B) f a) :
    Calls Tryz.prog 52 #[.pointer (some ⟨B, 0, none⟩), .slice a (tlen f) c] w (SpR B S lv (.slice na ns.length nc) (.slice va (len vs) vc) (tlen f) (if bad = true then none else evL (fun s => getE ns vs s ns.length) f) w) := by
  have h := sterms_by B S lv (.slice na ns.length nc) (.slice va (len vs) vc) (fun s => getE ns vs s ns.length) f a c bad w hM hfl hS hB fun j hj pa pc a' c' bad' w' hf hB' hp hpc hm =>
    sterm_all B T S hT lv ns vs na va nc vc hl hlen hty ms d f hk hsm hlm j hj pa pc a' c' bad' w' hB' (XS_fr hX hf) (VTop_fr hV hf hT fun h => (hS B h).2 rfl) (fun q hq => ⟨Nat.lt_of_lt_of_le (hS q hq).1 hf.size, (hS q hq).2⟩) hp hpc hm
  rw [sP_all] at h
  exact h

end Go.Proofs.YtldbmlojgakieaaGreatDoor
