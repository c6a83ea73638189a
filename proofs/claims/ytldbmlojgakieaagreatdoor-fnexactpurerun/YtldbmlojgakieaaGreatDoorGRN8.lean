/- Walks: a run, by the program. Walks: values copied, a run told, by the program. Walks: a run told, by the program. -/
import Derived.Test.YtldbmlojgakieaaGreatDoorGIS2
import Derived.Test.YtldbmlojgakieaaGreatDoorGL4
namespace Go.Proofs.YtldbmlojgakieaaGreatDoor

open Go.RowKit Go.Deep Go.Maps Go.WideMaps

attribute [local go_sem ↓] Go.wp_at_zero Go.wp_at_succ

/-- All values of a list are of some type. -/
def tyAll (v : F) : Bool := (List.range (len v)).all fun i => (vType 4 (num v i) (kid v i)).isSome
theorem tyAll_no {v : F} {i : Nat} (h : i < len v) (hb : (vType 4 (num v i) (kid v i)).isSome = false) : tyAll v = false := by
  simp only [tyAll]
  rw [List.all_eq_false]
  exact ⟨i, List.mem_range.2 h, by rw [hb]; simp⟩
theorem tyAll_yes {v : F} (h : ∀ i, i < len v → (vType 4 (num v i) (kid v i)).isSome = true) : tyAll v = true := by
  simp only [tyAll]
  rw [List.all_eq_true]
  exact fun i hi => h i (List.mem_range.1 hi)
/-- What is asked for. -/
def askV (l : List PM) (s : ByteArray) (v : F) : Bool := pureB l && ((arityR l s).2.2 && (decide ((arityR l s).1 = len v) && tyAll v))
/-- What a run says. -/
def runV (l : List PM) (s : ByteArray) (v : F) : Option F := if askV l s v = true then callV l l.length s v else none
def runE (ea eb : Addr) (asked : Bool) (R : Option F) : Value := if asked = true then errV eb R.isSome else EV ea
def RunP (ea eb : Addr) (S : Nat → Prop) (asked : Bool) (R : Option F) (w : World) (e : Ending) (w' : World) : Prop :=
  ∃ a' c', e = .returned (.tuple #[.slice a' (len (R.getD .nil)) c', runE ea eb asked R]) ∧ VS w' (fun b => S b ∨ w.heap.size ≤ b) (R.getD .nil) a' ∧ Ex w w'
theorem RunP.no {ea eb : Addr} {S : Nat → Prop} {w w' : World} (h : Ex w w') : RunP ea eb S false none w (.returned (.tuple #[.slice none 0 0, EV ea])) w' := ⟨none, 0, rfl, Or.inl rfl, h⟩

theorem pureB_at {l : List PM} (h : pureB l = true) : l.length ≤ 10 ∧ ∀ j, j < l.length → pureAt l j = true := by
  simp only [pureB, Bool.and_eq_true, List.all_eq_true, List.mem_range, decide_eq_true_eq] at h
  exact h

set_option maxRecDepth 100000 in
set_option maxHeartbeats 4000000 in
theorem runPure_any (ea eb : Addr) (S : Nat → Prop) (l : List PM) (la : Option Addr) (lc : Nat) (s : ByteArray) (v : F) (a : Option Addr) (c : Nat) (w : World) (hT : Two ea eb w) (hl : l.length ≤ 1000000000) (hcap : l.length ≤ lc) (hs : PSkTo l l.length) (hlm : ∀ j, j < l.length → PLm (l.getD j pm0)) (hQ : QA w 0 l la)
    (hv : len v ≤ 1000000000) (hV : VS w S v a) (hS : ∀ b, S b → b < w.heap.size) :
    Calls Tryz.prog 27 #[.slice la l.length lc, .string s, .slice a (len v) c] w (RunP ea eb S (askV l s v) (runV l s v) w) := by
  have T : Hid (∀ w', Ex w w' → Two ea eb w') := fun w' h => hT.ex h
  have Q : Hid (∀ w', Ex w w' → QA w' 0 l la) := fun _ h => QA_below hQ h
  have V : Hid (∀ w', Ex w w' → VS w' S v a) := fun _ h => VS_ex hV h
  have HS : Hid (∀ b, S b → b < w.heap.size) := hS
  have CP : Hid (∀ w', Ex w w' → Calls Tryz.prog 55 #[.slice la l.length lc] w' (ErrP ea (pureB l) w')) := fun w' h => checkPures_any ea l la lc w' hl hcap hs hlm (h.at hT.one) (QA_below hQ h)
  have FZ : Hid (∀ i, i < l.length → FSz (l.getD i pm0)) := fun i hi => ⟨(hlm i hi).2.2.1, (hs i hi).2.1.2, (hlm i hi).2.2.2.2.1, (hs i hi).2.2.2, (hlm i hi).2.2.2.2.2.2⟩
  have HL : Hid (l.length ≤ 1000000000) := hl
  have HV : Hid (len v ≤ 1000000000) := hv
  obtain ⟨A, hA⟩ : ∃ A, A = askV l s v := ⟨_, rfl⟩
  obtain ⟨R, hR⟩ : ∃ R, R = runV l s v := ⟨_, rfl⟩
  have AA : Hid (A = (pureB l && ((arityR l s).2.2 && (decide ((arityR l s).1 = len v) && tyAll v)))) := hA
  have RR : Hid (A = false → R = none) := fun h => by rw [hR, runV, if_neg (by rw [← hA, h]; simp)]
  have RY : Hid (A = true → R = callV l l.length s v) := fun h => by rw [hR, runV, if_pos (by rw [← hA, h])]
  rw [← hA, ← hR]
  have NO : Hid (∀ w', Ex w w' → A = false → RunP ea eb S A R w (.returned (.tuple #[.slice none 0 0, EV ea])) w') := fun w' h ha => by rw [RR.out ha, ha]; exact RunP.no h
  clear hA hR hT hQ hV hS hs hlm hcap hl
  go_enter Tryz.func27, Tryz.ntmps27
  go_wp2_with fail
  refine (CP.out _ (Ex.refl _)).mono ?_
  rintro e w1 ⟨rfl, hb1⟩
  have X1 : Hid (Ex w w1) := hb1
  clear hb1 CP
  obtain ⟨bp, hbp⟩ : ∃ b, pureB l = b := ⟨_, rfl⟩
  rw [hbp] at AA ⊢
  cases bp with
  | false =>
    have AF : Hid (A = false) := AA.out
    simp only [errV, Bool.false_eq_true, if_false]
    go_wp2_with fail
    exact bodyPost_ret (v := .tuple #[.slice none 0 0, EV ea]) (by simp [results, Tryz.results27, go_sem]) rfl (NO.out _ X1.out AF.out)
  | true =>
    have PB : Hid _ := (pureB_at hbp).2
    simp only [errV, if_true]
    clear hbp
    obtain ⟨bq, hbq⟩ : ∃ b, (arityR l s).2.2 = b := ⟨_, rfl⟩
    cases bq with
    | false =>
      have AF : Hid (A = false) := by
        show _ = _
        rw [AA.out, hbq]; rfl
      have NM : Hid (∀ w', Ex w w' → Calls Tryz.prog 56 #[.slice la l.length lc, .string s] w' (NamedP l s w')) := fun w' h => named_any l la lc s w' HL.out (Q.out w' h)
      have BQ : Hid ((arityR l s).2.2 = false) := hbq
      clear hbq
      go_wp2_with fail
      refine (NM.out _ X1.out).mono ?_
      rintro e w2 ⟨gn, a1, np, k1, a2, nb, k2, a3, nz, k3, ok, rfl, har, hb2⟩
      have hok : ok = false := by have := BQ.out; rw [har] at this; exact this
      subst hok
      have X2 : Hid (Ex w w2) := X1.out.trans hb2
      have g0 := (T.out w2 X2.out).one
      have z0 : 0 < w2.heap.size := World.block_lt_of_cell? _ _ g0
      clear har hb2 NM
      go_wp2_with fail
      go_region
      all_goals
        go_wp2_with fail
        refine bodyPost_ret (v := .tuple #[.slice none 0 0, EV ea]) (by simp [results, Tryz.results27, go_sem]) rfl (NO.out _ ?_ AF.out)
        first | exact (X2.out.alloc _).drew | exact X2.out.alloc _
    | true =>
      obtain ⟨q, hq, hq2, hq3, hq4⟩ := arity_find (Nat.le_refl l.length) (s := s) (by rw [List.take_length]; exact hbq)
      rw [List.take_length] at hq4
      have AV : Hid (A = (decide ((l.getD q pm0).params.length = len v) && tyAll v)) := by
        show _ = _
        rw [AA.out, hbq, hq4]; rfl
      have NM : Hid (∀ w', Ex w w' → Calls Tryz.prog 56 #[.slice la l.length lc, .string s] w' (FnP (l.getD q pm0) w')) := fun w' h => named_fn l la lc s q w' HL.out (Q.out w' h) hq hq3 hq2
      have GO : Hid (len v = (l.getD q pm0).params.length → tyL v → ∀ w', Ex w w' → GoOn eb S l la lc w' (callV l l.length s v) (l.getD q pm0) v) := fun h1 h2 w' h => calls_ok eb l la lc HL.out FZ.out l.length (Nat.le_refl _) PB.out q s v hq hq2 h1 h2 S w' (T.out w' h).two (Q.out w' h) (fun b hb => Nat.lt_of_lt_of_le (HS.out b hb) h.size)
      obtain ⟨f, hf⟩ : ∃ f, f = l.getD q pm0 := ⟨_, rfl⟩
      rw [← hf] at AV NM GO
      clear hf hq2 hq3 hq4 hbq AA PB
      go_wp2_with fail
      refine (NM.out _ X1.out).mono ?_
      rintro e w2 ⟨a1, k1, a2, k2, a3, k3, rfl, hm1, hm2, hm3, hb2⟩
      have X2 : Hid (Ex w w2) := X1.out.trans hb2
      obtain ⟨W3, hW3⟩ : ∃ W3, W3 = w2.alloc (.cells #[.string f.name, .slice a1 f.params.length k1, .slice a2 (blen f.binds) k2, .slice a3 (tlen f.says) k3] 61) := ⟨_, rfl⟩
      have N3 : Hid (Ex w2 W3) := hW3 ▸ Ex.new _ _
      have C3 : Hid (∀ w', Ex W3 w' → w'.cell? ⟨w2.heap.size, 0, none⟩ = some (.string f.name) ∧ w'.cell? ⟨w2.heap.size, 1, none⟩ = some (.slice a1 f.params.length k1) ∧ w'.cell? ⟨w2.heap.size, 2, none⟩ = some (.slice a2 (blen f.binds) k2) ∧ w'.cell? ⟨w2.heap.size, 3, none⟩ = some (.slice a3 (tlen f.says) k3)) := fun w' h => ⟨h.at (hW3 ▸ (by simp)), h.at (hW3 ▸ (by simp)), h.at (hW3 ▸ (by simp)), h.at (hW3 ▸ (by simp))⟩
      have M1 : Hid (∀ w', Ex W3 w' → XA w' 0 f.params a1 ∧ BA w' 0 f.binds a2 ∧ MA w' 0 f.says a3) := fun w' h => ⟨XA_below hm1 (N3.out.trans h), BA_below hm2 (N3.out.trans h), MA_below hm3 (N3.out.trans h)⟩
      have X3 : Hid (Ex w W3) := X2.out.trans N3.out
      have HW3 : Hid (w2.alloc (.cells #[.string f.name, .slice a1 f.params.length k1, .slice a2 (blen f.binds) k2, .slice a3 (tlen f.says) k3] 61) = W3) := hW3.symm
      obtain ⟨c0, c1, c2, c3⟩ := C3.out _ (Ex.refl _)
      have g0 := (T.out _ X3.out).one
      clear hm1 hm2 hm3 hb2 NM hW3
      by_cases hpl : f.params.length = len v
      · have e1 : (((len v : Nat) : Int) == ((f.params.length : Nat) : Int)) = true := by rw [hpl]; simp
        have A1 : Hid (A = tyAll v) := by
          show _ = _
          rw [AV.out, decide_eq_true hpl]; rfl
        have PL : Hid (f.params.length = len v) := hpl
        clear hpl AV
        clear c0 c1 c2 c3 g0
        obtain ⟨c0, c1, c2, c3⟩ := C3.out _ (Ex.refl _)
        go_wp2_with fail
        rw [HW3.out]
        have e2 : (((len v : Nat) : Int) != ((f.params.length : Nat) : Int)) = false := by rw [bne, e1]; rfl
        simp only [e2]
        clear c0 c1 c2 c3
        go_loopw [12, 13, 14, 39] (fun _ _ _ i wr => ∃ (j : Nat), j ≤ len v ∧ i = .int .i64 j ∧ (∀ k, k < j → (vType 4 (num v k) (kid v k)).isSome = true) ∧ Ex W3 wr) (fun _ _ _ i _ => len v - (intOf i).toNat)
        case atStart => exact ⟨0, by omega, rfl, fun j hj => by omega, Ex.refl _⟩
        case round =>
          obtain ⟨j, hj, rfl, hall, hx⟩ := hrel
          have AL : Hid (∀ k, k < j → (vType 4 (num v k) (kid v k)).isSome = true) := hall
          have E : Hid (Ex W3 wr) := hx
          have XW : Hid (Ex w wr) := X3.out.trans hx
          obtain ⟨c0, c1, c2, c3⟩ := C3.out wr hx
          have g0 := (T.out _ XW.out).one
          clear hall hx
          by_cases hlt : j < len v
          · obtain ⟨b, o, rfl, _, hbs, hk⟩ := VS_at (V.out wr XW.out) (by omega)
            obtain ⟨v0, a0, k0, v1, hV0⟩ := hk j hlt
            have TY : Hid (∀ w', Ex wr w' → Calls Tryz.prog 57 #[.agg #[.int .i64 (num v j), .slice a0 (len (kid v j)) k0]] w' fun e w'' => ∃ a' c', e = .returned (.tuple #[.agg #[.slice a' (len ((vType 4 (num v j) (kid v j)).getD .nil)) c'], .bool (vType 4 (num v j) (kid v j)).isSome]) ∧ Ex w' w'') := fun w' h => (valType_any _ _ a0 k0 0 w' (VS_mono (VS_ex hV0 h) fun _ _ _ => Nat.zero_le _)).mono fun e w'' ⟨a', c', he, _, hb⟩ => ⟨a', c', he, hb⟩
            have BN : Hid ((vType 4 (num v j) (kid v j)).isSome = false → A = false) := fun h => A1.out.trans (tyAll_no hlt h)
            have BY : Hid ((vType 4 (num v j) (kid v j)).isSome = true → ∀ k, k < j + 1 → (vType 4 (num v k) (kid v k)).isSome = true) := fun h k hk => by
              by_cases e : k = j
              · rw [e]; exact h
              · exact AL.out k (by omega)
            obtain ⟨z, hz⟩ : ∃ z, (vType 4 (num v j) (kid v j)).isSome = z := ⟨_, rfl⟩
            obtain ⟨t, ht⟩ : ∃ t, (vType 4 (num v j) (kid v j)).getD .nil = t := ⟨_, rfl⟩
            rw [hz] at TY BN BY
            rw [ht] at TY
            clear hk hV0 hz ht
            go_wp2_with fail
            refine (TY.out _ (Ex.new _ _)).mono ?_
            rintro e w5 ⟨a5, k5, rfl, hb5⟩
            have X5 : Hid (Ex wr w5) := (Ex.new _ _).trans hb5
            have z0 : 0 < w5.heap.size := World.block_lt_of_cell? _ _ (T.out w5 (XW.out.trans X5.out)).one
            clear hb5 TY c0 c1 c2 c3 g0 v0 v1
            cases z with
            | false =>
              have AF : Hid (A = false) := BN.out rfl
              have g0 := (T.out w5 (XW.out.trans X5.out)).one
              go_wp2_with fail
              go_region
              all_goals
                go_wp2_with fail
                refine bodyPost_ret (v := .tuple #[.slice none 0 0, EV ea]) (by simp [results, Tryz.results27, go_sem]) rfl (NO.out _ ?_ AF.out)
                first | exact ((XW.out.trans X5.out).alloc _).drew | exact (XW.out.trans X5.out).alloc _
            | true =>
              have HB : Hid _ := BY.out rfl
              go_wp2_with fail
              go_roundw
              case rel =>
                exact ⟨j + 1, by omega, by go_num, HB.out, E.out.trans (X5.out.alloc _)⟩
              case measure => simp [intOf]; omega
          · have hje : j = len v := by omega
            have TV : Hid (tyL v) := fun k hk => AL.out k (by omega)
            have AT : Hid (A = true) := A1.out.trans (tyAll_yes fun k hk => AL.out k (by omega))
            have CA : Hid (Calls Tryz.prog 58 #[.slice la l.length lc, .agg #[.string f.name, .slice a1 f.params.length k1, .slice a2 (blen f.binds) k2, .slice a3 (tlen f.says) k3], .slice a (len v) c] wr (RowP eb (fun b => S b ∨ wr.heap.size ≤ b) (callV l l.length s v) wr)) := GO.out PL.out.symm TV.out wr XW.out wr a1 k1 a2 k2 a3 k3 a c (Ex.refl _) (M1.out wr E.out).1 (M1.out wr E.out).2.1 (M1.out wr E.out).2.2 (VS_mono (V.out wr XW.out) fun b _ hb => Or.inl hb)
            rw [← RY.out AT.out] at CA
            clear hje g0
            go_wp2_with fail
            refine Calls.mono CA.out ?_
            rintro e w6 h6
            have h7 : RowP eb S R w e w6 := RowP.up h6 XW.out fun b hb => hb.imp id fun h => Nat.le_trans XW.out.size h
            obtain ⟨a9, k9, rfl, hV9, hb9⟩ := h7
            have V9 : Hid _ := hV9
            have X9 : Hid (Ex w w6) := hb9
            clear h6 hV9 hb9
            go_wp2_with fail
            refine bodyPost_ret (v := .tuple #[.slice a9 (len (R.getD .nil)) k9, errV eb R.isSome]) (by simp [results, Tryz.results27, go_sem]) rfl ⟨a9, k9, ?_, V9.out, X9.out⟩
            rw [AT.out]; rfl
      · have e1 : (((len v : Nat) : Int) == ((f.params.length : Nat) : Int)) = false := by rw [beq_eq_false_iff_ne]; omega
        have AF : Hid (A = false) := by
          show _ = _
          rw [AV.out, decide_eq_false hpl]; rfl
        clear hpl AV
        go_wp2_with fail
        rw [HW3.out]
        go_region
        all_goals
          go_wp2_with fail
          refine bodyPost_ret (v := .tuple #[.slice none 0 0, EV ea]) (by simp [results, Tryz.results27, go_sem]) rfl (NO.out _ ?_ AF.out)
          first | exact X3.out.drew | exact X3.out

end Go.Proofs.YtldbmlojgakieaaGreatDoor

namespace Go.Proofs.YtldbmlojgakieaaGreatDoor

open Go.RowKit Go.Deep Go.Maps Go.WideMaps

attribute [local go_sem ↓] Go.wp_at_zero Go.wp_at_succ

/-- A list of values in a row that the call owns, each in memory of its own. -/
def OR (w : World) (base hi : Nat) (v : Value) (l : F) : Prop := ∃ (cs : List Value) (K : Nat → Nat → Prop), w.ownsRow base 55 2 v (len l) cs ∧ (∀ g, v.ownBlock = some g → g < hi) ∧
  ∀ j, j < len l → cs[j * 2]? = some (.int .i64 (num l j)) ∧ (∃ a' c', cs[j * 2 + 1]? = some (.slice a' (len (kid l j)) c') ∧ VO 4 w (K j) (kid l j) a') ∧ (∀ b, K j b → base ≤ b ∧ b < hi ∧ v.ownBlock ≠ some b) ∧ ∀ i, i < len l → i ≠ j → ∀ b, K j b → ¬ K i b
theorem OR.nil (w : World) (base : Nat) : OR w base w.heap.size (.slice none 0 0) .nil := ⟨[], fun _ _ => False, World.ownsRow_nil _ _ _ _, fun g h => by simp [Value.ownBlock] at h, fun _ hj => absurd hj (Nat.not_lt_zero _)⟩
theorem OR.ex {w w' : World} {base hi : Nat} {v : Value} {l : F} (h : OR w base hi v l) (hx : Ex w w') : OR w' base hi v l := by
  obtain ⟨cs, K, h1, h0, h2⟩ := h
  exact ⟨cs, K, owns_ex h1 hx, h0, fun j hj => by
    obtain ⟨e, ⟨a', c', e2, hV⟩, h3, h4⟩ := h2 j hj
    exact ⟨e, ⟨a', c', e2, hV.ex hx⟩, h3, h4⟩⟩
theorem OR.vo {w : World} {base hi : Nat} {v : Value} {l : F} (h : OR w base hi v l) : ∃ a c, v = .slice a (len l) c ∧ VO 5 w (fun b => base ≤ b) l a := by
  obtain ⟨cs, K, h1, h0, h2⟩ := h
  obtain ⟨hcs, ⟨rfl, h3⟩ | ⟨g, cap, cur, rfl, hb, hc, h4, h5, h6, h7⟩⟩ := id h1
  · exact ⟨none, 0, by rw [h3], Or.inl h3⟩
  · refine ⟨some ⟨g, 0, none⟩, cap, rfl, Or.inr ⟨g, cur, K, rfl, hb, hc, fun i hi => ?_⟩⟩
    obtain ⟨e, ⟨a', c', e2, hV⟩, h8, h9⟩ := h2 i hi
    have key : ∀ (k : Nat) (x : Value), cs[k]? = some x → cur[k]? = some x := fun k x hx => by
      have hk : k < len l * 2 := by have := (List.getElem?_eq_some_iff.1 hx).1; omega
      have := List.getElem?_take_of_lt (l := cur.toList) (j := len l * 2) (i := k) hk
      rw [h7, hx] at this
      simpa using this.symm
    exact ⟨fun b hb' => ⟨(h8 b hb').1, fun e' => (h8 b hb').2.2 (by rw [e']; rfl)⟩, fun j hj hne b hb' => h9 j hj hne b hb', key _ _ e, a', c', key _ _ e2, hV⟩

set_option maxRecDepth 100000 in
set_option maxHeartbeats 1000000 in
/-- A copy put behind such a list: an operation of an ordered list. -/
theorem wpList_append_copy {w : World} {ops : Array Oper} {rest : List Oper} {o : Oper} {a : Act} {Q : Exit → Act → World → Prop} (hgd : o.guard = none) (s x : Operand)
    (ho : o.op = .call { callee := .builtin .append, args := #[s, x], argTypes := #[26, 26] })
    (w0 : World) (hE : Ex w0 w) (base hi : Nat) (hb : w0.heap.size ≤ base) (hbw : base ≤ hi) (hhi : hi ≤ w.heap.size) (v : Value) (l : F) (hs : a.eval s = v) (hR : OR w base hi v l)
    (b pc : Nat) (u : Int) (f : F) (ad : Option Addr) (c : Nat) (hx : a.eval x = .slice (some ⟨b, 0, none⟩) 1 pc) (hc0 : w.cell? ⟨b, 0, none⟩ = some (.int .i64 u)) (hc1 : w.cell? ⟨b, 1, none⟩ = some (.slice ad (len f) c))
    (hV : VO 4 w (fun q => hi ≤ q) f ad) (h63 : len l ≤ 100000000)
    (h : ∀ av cap w', OR w' base w'.heap.size (.slice av (len l + 1) cap) (snoc l u f) → Ex w0 w' → wpList Tryz.prog ops Q rest (a.put o.dst (.slice av (len l + 1) cap)) w') :
    wpList Tryz.prog ops Q (o :: rest) a w := by
  obtain ⟨cs, K, h1, h0, h2⟩ := hR
  obtain ⟨i0, hi0, hz0, hz1, hz2⟩ := info_parts Tryz.info55
  have hlen : cs.length = len l * 2 := h1.1
  refine wpList_append_lies w hgd s x 26 ho base 55 i0 _ 2 32 Tryz.underlying26 hi0 hz0 hz1 hz2 rfl (by omega) v (len l) cs hs h1 ⟨b, 0, none⟩ 1 pc [.int .i64 u, .slice ad (len f) c] hx rfl ?_ ?_ (by omega) (by unfold maxLen; omega) (by omega) (by omega) w.heap.size rfl ?_
  · intro j q hq
    match j, hq with
    | 0, hq => simp at hq; subst hq; rw [Go.WideShapes.add_plain]; exact hc0
    | 1, hq => simp at hq; subst hq; rw [Go.WideShapes.add_plain]; exact hc1
  · simp [Value.oneCell']
  · intro g cap w' hown hgrow hat hlt
    have hr := fun k (hk : v.ownBlock = some k) => (h1.lt k hk).1
    have mv : ∀ (k : F) (a' : Option Addr) (T : Nat → Prop), VO 4 w T k a' → (∀ q, T q → v.ownBlock ≠ some q) → VO 4 w' T k a' := fun k a' T hk hT => hk.ks fun q hq hl => hgrow.block q hl fun e => hT q hq e.symm
    have own' : (Value.slice (some ⟨g, 0, none⟩) (len l + 1) cap).ownBlock = some g := rfl
    have gx : ∀ q, q < w.heap.size → v.ownBlock ≠ some q → (Value.slice (some ⟨g, 0, none⟩) (len l + 1) cap).ownBlock ≠ some q := fun q hq hne e => by
      rw [own'] at e; cases e
      rcases hat with h | h
      · exact hne h
      · omega
    refine h (some ⟨g, 0, none⟩) cap w' ⟨_, fun j => if j < len l then K j else fun q => hi ≤ q ∧ q < w.heap.size, by rw [len_snoc]; exact hown, fun k hk => by rw [own'] at hk; cases hk; exact hlt, fun j hj => ?_⟩ ⟨hgrow.os.trans hE.os, hgrow.tape.trans hE.tape, hgrow.output.trans hE.output, Nat.le_trans hE.size hgrow.size, fun k hk => (hgrow.block k (Nat.lt_of_lt_of_le hk hE.size) (fun e => by have := hr k e.symm; omega)).trans (hE.block k hk)⟩
    rw [len_snoc] at hj ⊢
    rw [num_snoc, kid_snoc]
    by_cases e : j < len l
    · rw [if_pos e, if_pos e]
      obtain ⟨e1, ⟨a', c', e2, hk⟩, h3, h4⟩ := h2 j e
      simp only [if_pos e]
      refine ⟨by rw [List.getElem?_append_left (by omega)]; exact e1, ⟨a', c', by rw [List.getElem?_append_left (by omega)]; exact e2, mv _ _ _ hk fun q hq => (h3 q hq).2.2⟩, fun q hq => ?_, fun i hi' hne q hq => ?_⟩
      · have := h3 q hq
        exact ⟨this.1, by have := hgrow.size; omega, gx q (by omega) this.2.2⟩
      · by_cases ei : i < len l
        · rw [if_pos ei]; exact h4 i ei hne q hq
        · rw [if_neg ei]; intro hh; have := (h3 q hq).2.1; omega
    · have ej : j = len l := by omega
      rw [if_neg e, if_neg e, if_pos ej, if_pos ej]
      simp only [if_neg e]
      refine ⟨by rw [List.getElem?_append_right (by omega)]; simp [hlen, ej], ⟨ad, c, by rw [List.getElem?_append_right (by omega)]; simp [hlen, ej], mv _ _ _ (hV.mono fun q hq hs => ⟨hs, hq⟩) fun q hq e' => by have := h0 q e'; omega⟩, fun q hq => ?_, fun i hi' hne q hq => ?_⟩
      · exact ⟨by omega, by have := hgrow.size; omega, gx q hq.2 fun e' => by have := h0 q e'; omega⟩
      · have ei : i < len l := by omega
        rw [if_pos ei]
        intro hh
        have := ((h2 i ei).2.2.1 q hh).2.1
        omega

theorem VO.congr {d : Nat} {w : World} {S : Nat → Prop} {f g : F} {a : Option Addr} (h : VO d w S f a) (hl : len f = len g) (hk : ∀ i, i < len f → num f i = num g i ∧ kid f i = kid g i) : VO d w S g a := by
  cases d with
  | zero => exact hl.symm.trans h
  | succ d =>
    rcases h with h | ⟨b, cur, K, e, hg, hc, hkk⟩
    · exact Or.inl (hl.symm.trans h)
    · refine Or.inr ⟨b, cur, K, e, hg, hc, fun i hi => ?_⟩
      rw [← hl] at hi
      obtain ⟨h0, h1, h2, a', c', h3, h4⟩ := hkk i hi
      obtain ⟨e1, e2⟩ := hk i hi
      exact ⟨h0, fun j hj => h1 j (by omega), e1 ▸ h2, a', c', e2 ▸ h3, e2 ▸ h4⟩

/-- Values copied. -/
def CopP (v : F) (w : World) (e : Ending) (w' : World) : Prop := ∃ a' c', e = .returned (.slice a' (len v) c') ∧ VO 5 w' (fun b => w.heap.size ≤ b) v a' ∧ Ex w w'
set_option maxRecDepth 100000 in
set_option maxHeartbeats 4000000 in
theorem copies_any (v : F) (a : Option Addr) (c lo : Nat) (w : World) (hl : len v ≤ 100000000) (ht : tyL v) (hV : VA w lo v a) :
    Calls Tryz.prog 29 #[.slice a (len v) c, .func (.func 30) #[] #[]] w (CopP v w) := by
  have V : Hid (∀ w', Ex w w' → VS w' (fun b => lo ≤ b) v a) := fun _ h => VS_ex hV h
  have T : Hid (tyL v) := ht
  have HL : Hid (len v ≤ 100000000) := hl
  clear hV ht
  go_enter Tryz.func29, Tryz.ntmps29
  go_wp2_with fail
  go_loopw [5, 7, 10] (fun ov _ i wr => ∃ (j : Nat) (l : F), j ≤ len v ∧ i = .int .i64 j ∧ len l = j ∧ (∀ k, k < j → num l k = num v k ∧ kid l k = kid v k) ∧ OR wr w.heap.size wr.heap.size ov l ∧ Ex w wr) (fun _ _ i _ => len v - (intOf i).toNat)
  case atStart => exact ⟨0, .nil, by omega, rfl, rfl, fun k hk => by omega, OR.nil _ _, Ex.refl _⟩
  case round =>
    obtain ⟨j, l, hj, rfl, hlen, hall, hor, hx⟩ := hrel
    have LJ : Hid (len l = j) := hlen
    have AL : Hid (∀ k, k < j → num l k = num v k ∧ kid l k = kid v k) := hall
    have E : Hid (Ex w wr) := hx
    obtain ⟨av, ac, rfl, hvo⟩ := hor.vo
    have O : Hid (OR wr w.heap.size wr.heap.size (.slice av (len l) ac) l) := hor
    have VV : Hid (VO 5 wr (fun b => w.heap.size ≤ b) l av) := hvo
    clear hx hor hvo hlen hall
    by_cases hlt : j < len v
    · obtain ⟨b, o, rfl, _, hbs, hk⟩ := VS_at (V.out wr E.out) (by omega)
      obtain ⟨v0, a0, k0, v1, hV0⟩ := hk j hlt
      have CO : Hid (∀ w', Ex wr w' → Calls Tryz.prog 30 #[.agg #[.int .i64 (num v j), .slice a0 (len (kid v j)) k0]] w' (CpPost 4 (num v j) (kid v j) w')) := fun w' h => by
        have htj := T.out j hlt
        cases hv4 : vType 4 (num v j) (kid v j) with
        | none => rw [hv4] at htj; cases htj
        | some u => exact valCopyO_any 4 (num v j) (kid v j) u a0 k0 0 w' hv4 (VS_mono (VS_ex hV0 h) fun _ _ _ => Nat.zero_le _)
      have NX : Hid (∀ k, k < j + 1 → num (snoc l (num v j) (kid v j)) k = num v k ∧ kid (snoc l (num v j) (kid v j)) k = kid v k) := fun k hk => by
        rw [num_snoc, kid_snoc, LJ.out]
        by_cases e : k < j
        · rw [if_pos e, if_pos e]; exact AL.out k e
        · have ek : k = j := by omega
          rw [if_neg e, if_neg e, if_pos ek, if_pos ek, ek]; exact ⟨rfl, rfl⟩
      obtain ⟨u, hu⟩ : ∃ u, u = num v j := ⟨_, rfl⟩
      obtain ⟨g, hg⟩ : ∃ g, g = kid v j := ⟨_, rfl⟩
      rw [← hu, ← hg] at CO NX
      rw [← hu] at v0
      rw [← hg] at v1
      clear hk hV0 hu hg
      go_wp2_with fail
      refine Calls.mono (CO.out _ (Ex.new _ _)) ?_
      rintro e w1 ⟨a1, c1', rfl, hV1, hb1⟩
      have E1 : Hid (Ex wr w1) := (Ex.new _ _).trans hb1
      have E2 : Hid (Ex w ((w1.alloc (.cells #[.int .i64 u, .slice a1 (len g) c1'] 55)))) := (E.out.trans E1.out).alloc _
      have O3 : Hid (OR ((w1.alloc (.cells #[.int .i64 u, .slice a1 (len g) c1'] 55))) w.heap.size wr.heap.size (.slice av (len l) ac) l) := OR.ex O.out (E1.out.alloc _)
      have V3 : Hid (VO 4 ((w1.alloc (.cells #[.int .i64 u, .slice a1 (len g) c1'] 55))) (fun q => wr.heap.size ≤ q) g a1) := (hV1.ex (Ex.new _ _)).mono fun q _ hq => by rw [World.size_alloc] at hq; omega
      have C20 : Hid (((w1.alloc (.cells #[.int .i64 u, .slice a1 (len g) c1'] 55))).cell? ⟨w1.heap.size, 0, none⟩ = some (.int .i64 u)) := by show _ = _; simp
      have C21 : Hid (((w1.alloc (.cells #[.int .i64 u, .slice a1 (len g) c1'] 55))).cell? ⟨w1.heap.size, 1, none⟩ = some (.slice a1 (len g) c1')) := by show _ = _; simp
      have BS : Hid (w.heap.size ≤ wr.heap.size ∧ wr.heap.size ≤ ((w1.alloc (.cells #[.int .i64 u, .slice a1 (len g) c1'] 55))).heap.size) := ⟨E.out.size, (E1.out.alloc _).size⟩
      have j6 : len l ≤ 100000000 := by have := LJ.out; have := HL.out; omega
      clear hV1 hb1 CO O VV v0 v1 E
      go_wp2_with (at_builtin; refine wpList_append_copy rfl _ _ rfl w E2.out w.heap.size wr.heap.size (Nat.le_refl _) BS.out.1 BS.out.2 (.slice av (len l) ac) l rfl O3.out w1.heap.size 1 u g a1 c1' rfl C20.out C21.out V3.out j6 ?_)
      intro av3 ac3 w3 hor3 hx3
      have O4 : Hid (OR w3 w.heap.size w3.heap.size (.slice av3 (len l + 1) ac3) (snoc l u g)) := hor3
      have E3 : Hid (Ex w w3) := hx3
      clear hor3 hx3 O3 E2 V3 C20 C21 BS
      go_wp2_with fail
      go_roundw
      case rel => exact ⟨j + 1, _, by omega, by go_num, by rw [len_snoc, LJ.out], NX.out, O4.out, E3.out⟩
      case measure => simp [intOf]; omega
    · have hje : j = len v := by omega
      have VF : Hid (VO 5 wr (fun b => w.heap.size ≤ b) v av) := VV.out.congr (LJ.out.trans hje) fun i hi => AL.out i (by have := LJ.out; omega)
      have LF : Hid (len l = len v) := LJ.out.trans hje
      clear hje
      go_wp2_with fail
      exact bodyPost_ret (v := .slice av (len l) ac) (by simp [results, Tryz.results29, go_sem]) rfl ⟨av, ac, by rw [LF.out], VF.out, E.out⟩

end Go.Proofs.YtldbmlojgakieaaGreatDoor

namespace Go.Proofs.YtldbmlojgakieaaGreatDoor

open Go.RowKit Go.Deep Go.Maps Go.WideMaps

attribute [local go_sem ↓] Go.wp_at_zero Go.wp_at_succ

def codeV (asked : Bool) (R : Option F) : Int := if asked = true then (if R.isSome = true then 0 else 1) else 9
/-- A run that is told. -/
def PrP (asked : Bool) (R : Option F) (w : World) (e : Ending) (w' : World) : Prop := ∃ a' c', e = .returned (.tuple #[.slice a' (len (R.getD .nil)) c', .int .i64 (codeV asked R)]) ∧ VO 5 w' (fun b => w.heap.size ≤ b) (R.getD .nil) a' ∧ Ex w w'

/-- What is said is of types, and not too much. -/
theorem run_ty {l : List PM} {s : ByteArray} {v r : F} (h : runV l s v = some r) : tyL r ∧ len r ≤ 60 := by
  unfold runV at h
  split at h
  · rename_i ha
    simp only [askV, Bool.and_eq_true, decide_eq_true_eq] at ha
    obtain ⟨h1, h2, h3, h4⟩ := ha
    obtain ⟨hp1, hp2⟩ := pureB_at h1
    have ht : tyL v := fun i hi => by
      simp only [tyAll, List.all_eq_true, List.mem_range] at h4
      exact h4 i hi
    have e0 : l.take l.length = l := List.take_length
    obtain ⟨q, hq, hq2, hq3, hq4⟩ := arity_find (Nat.le_refl l.length) (s := s) (by rw [e0]; exact h2)
    have hk := okCall_at l.length (Nat.le_refl _) hp2 s v r (by rw [e0]; exact h2) (by rw [e0]; exact h3.symm) ht h
    rw [hq4] at hk
    refine ⟨hk.1, ?_⟩
    have hb := (pureAt_yes (hp2 q hq)).2.2.2.1
    have := (termsB_kids (bodyB_yes hb).2.2).1
    rw [hk.2]
    exact this
  · cases h

set_option maxRecDepth 100000 in
set_option maxHeartbeats 4000000 in
theorem iPureRun_any (ea eb : Addr) (S : Nat → Prop) (l : List PM) (la : Option Addr) (lc : Nat) (s : ByteArray) (v : F) (a : Option Addr) (c : Nat) (w : World) (hT : Two ea eb w) (hl : l.length ≤ 1000000000) (hcap : l.length ≤ lc) (hs : PSkTo l l.length) (hlm : ∀ j, j < l.length → PLm (l.getD j pm0)) (hQ : QA w 0 l la)
    (hv : len v ≤ 1000000000) (hV : VS w S v a) (hS : ∀ b, S b → b < w.heap.size) :
    Calls Tryz.prog 10 #[.slice la l.length lc, .string s, .slice a (len v) c] w (PrP (askV l s v) (runV l s v) w) := by
  have T : Hid (∀ w', Ex w w' → Two ea eb w') := fun w' h => hT.ex h
  have RP : Hid (Calls Tryz.prog 27 #[.slice la l.length lc, .string s, .slice a (len v) c] w (RunP ea eb S (askV l s v) (runV l s v) w)) := runPure_any ea eb S l la lc s v a c w hT hl hcap hs hlm hQ hv hV hS
  have TY : Hid (∀ r, runV l s v = some r → tyL r ∧ len r ≤ 60) := fun r h => run_ty h
  have NA : Hid (askV l s v = false → runV l s v = none) := fun h => by unfold runV; rw [if_neg (by rw [h]; simp)]
  obtain ⟨A, hA⟩ : ∃ A, A = askV l s v := ⟨_, rfl⟩
  obtain ⟨R, hR⟩ : ∃ R, R = runV l s v := ⟨_, rfl⟩
  rw [← hA, ← hR] at RP NA
  rw [← hR] at TY
  rw [← hA, ← hR]
  clear hA hR hT hs hlm hQ hV hS
  go_enter Tryz.func10, Tryz.ntmps10
  go_wp2_with fail
  refine Calls.mono RP.out ?_
  rintro e w1 ⟨a1, c1, rfl, hV1, hb1⟩
  have X1 : Hid (Ex w w1) := hb1
  have T1 : Two ea eb w1 := T.out w1 hb1
  have g0 := T1.one
  have g1 := T1.two
  have IS1 : Hid (Calls Tryz.prog 28 #[EV ea, EV ea] w1 fun e w' => e = .returned (.bool true) ∧ Ex w1 w') := is_same ea w1
  cases A with
  | false =>
    have HR : Hid (R = none) := NA.out rfl
    simp only [runE, Bool.false_eq_true, if_false]
    clear hV1 hb1 RP T1
    go_wp2_with fail
    refine Calls.mono IS1.out ?_
    rintro e w2 ⟨rfl, hb2⟩
    go_wp2_with fail
    exact bodyPost_ret (v := .tuple #[.slice none 0 0, .int .i64 9]) (by simp [results, Tryz.results10, go_sem]) rfl ⟨none, 0, by rw [HR.out]; rfl, by rw [HR.out]; exact VO.nil _ _ _ _ _ rfl, X1.out.trans hb2⟩
  | true =>
    simp only [runE, if_true]
    cases R with
    | none =>
      simp only [Option.isSome_none, errV, Bool.false_eq_true, if_false]
      obtain ⟨ca, ta, ha⟩ := T1.at1
      obtain ⟨cb, tb, hb⟩ := T1.at2
      have IO : Hid (Calls Tryz.prog 28 #[EV eb, EV ea] w1 fun e w' => e = .returned (.bool false) ∧ Ex w1 w') := is_other eb ea cb ca tb ta w1 (fun e => T1.ne e.symm) hb ha
      clear hV1 hb1 RP ha hb IS1 T1
      go_wp2_with fail
      refine Calls.mono IO.out ?_
      rintro e w2 ⟨rfl, hb2⟩
      have X2 : Hid (Ex w w2) := X1.out.trans hb2
      have g2 := (T.out w2 X2.out).two
      have IS2 : Hid (Calls Tryz.prog 28 #[EV eb, EV eb] w2 fun e w' => e = .returned (.bool true) ∧ Ex w2 w') := is_same eb w2
      clear hb2 IO g0 g1
      go_wp2_with fail
      refine Calls.mono IS2.out ?_
      rintro e w3 ⟨rfl, hb3⟩
      go_wp2_with fail
      exact bodyPost_ret (v := .tuple #[.slice none 0 0, .int .i64 1]) (by simp [results, Tryz.results10, go_sem]) rfl ⟨none, 0, rfl, VO.nil _ _ _ _ _ rfl, X2.out.trans hb3⟩
    | some r =>
      obtain ⟨hty, hln⟩ := TY.out r rfl
      have TYR : Hid (tyL r ∧ len r ≤ 60) := ⟨hty, hln⟩
      have V1 : Hid (VS w1 (fun b => S b ∨ w.heap.size ≤ b) r a1) := hV1
      simp only [Option.isSome_some, Option.getD_some, errV, if_true]
      have IN : Hid (Calls Tryz.prog 28 #[.nilIface, EV ea] w1 fun e w' => e = .returned (.bool false) ∧ Ex w1 w') := is_nil ea w1
      clear hV1 hb1 RP IS1 T1 hty hln
      go_wp2_with fail
      refine Calls.mono IN.out ?_
      rintro e w2 ⟨rfl, hb2⟩
      have Y2 : Hid (Ex w1 w2) := hb2
      have X2 : Hid (Ex w w2) := X1.out.trans hb2
      have g2 := (T.out w2 X2.out).two
      have IN2 : Hid (Calls Tryz.prog 28 #[.nilIface, EV eb] w2 fun e w' => e = .returned (.bool false) ∧ Ex w2 w') := is_nil eb w2
      clear hb2 IN g0 g1
      go_wp2_with fail
      refine Calls.mono IN2.out ?_
      rintro e w3 ⟨rfl, hb3⟩
      have X3 : Hid (Ex w w3) := X2.out.trans hb3
      have CO : Hid (Calls Tryz.prog 29 #[.slice a1 (len r) c1, .func (.func 30) #[] #[]] w3 (CopP r w3)) := copies_any r a1 c1 0 w3 (by have := TYR.out.2; omega) TYR.out.1 (VS_mono (VS_ex V1.out (Y2.out.trans hb3)) fun _ _ _ => Nat.zero_le _)
      clear hb3 IN2 g2
      go_wp2_with fail
      refine Calls.mono CO.out ?_
      rintro e w4 ⟨a4, c4, rfl, hV4, hb4⟩
      have V4 : Hid _ := hV4
      have X4 : Hid (Ex w w4) := X3.out.trans hb4
      clear hV4 hb4 CO
      go_wp2_with fail
      exact bodyPost_ret (v := .tuple #[.slice a4 (len r) c4, .int .i64 0]) (by simp [results, Tryz.results10, go_sem]) rfl ⟨a4, c4, rfl, VO.mono V4.out fun b _ hb => Nat.le_trans X3.out.size hb, X4.out⟩

end Go.Proofs.YtldbmlojgakieaaGreatDoor
