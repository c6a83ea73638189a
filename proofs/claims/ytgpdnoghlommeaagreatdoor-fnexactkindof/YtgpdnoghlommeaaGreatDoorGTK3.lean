/- Walks: what a binding gives its names to, of types, by the program. Walks: of which types a body says what it says, by the program. -/
import Derived.Test.YtgpdnoghlommeaaGreatDoorGNF
import Derived.Test.YtgpdnoghlommeaaGreatDoorGKS1
namespace Go.Proofs.YtgpdnoghlommeaaGreatDoor

open Go.RowKit Go.Deep Go.Maps Go.WideMaps

attribute [local go_sem ↓] Go.wp_at_zero Go.wp_at_succ

/-- Types that are told, or a fault; but for what is kept of calls nothing that was there has turned. -/
def TakP (eb : Addr) (tb : Nat) (S : Nat → Prop) (G : List UInt8 → F → Prop) (R : Option F) (w : World) (e : Ending) (w' : World) : Prop :=
  ∃ a' c', e = .returned (.tuple #[.slice a' (len (R.getD .nil)) c', errV eb R.isSome]) ∧ SA w' (fun b => S b ∨ w.heap.size ≤ b) (R.getD .nil) a' ∧ MM w' (fun b => S b ∨ w.heap.size ≤ b) tb G ∧ Fr tb w w'
theorem TakP.up {eb : Addr} {tb : Nat} {S S' : Nat → Prop} {G : List UInt8 → F → Prop} {R : Option F} {w w1 : World} {e : Ending} {w' : World} (h : TakP eb tb S' G R w1 e w') (hx : Fr tb w w1) (hS : ∀ b, S' b → S b ∨ w.heap.size ≤ b) : TakP eb tb S G R w e w' := by
  obtain ⟨a', c', h1, h2, h3, h4⟩ := h
  have key : ∀ b, b < w'.heap.size → (S' b ∨ w1.heap.size ≤ b) → (S b ∨ w.heap.size ≤ b) := fun b _ hb => by
    rcases hb with hb | hb
    · exact hS b hb
    · exact Or.inr (Nat.le_trans hx.size hb)
  exact ⟨a', c', h1, SA_mono h2 key, h3.mono key, hx.trans h4⟩
theorem TakP.no {eb : Addr} {tb : Nat} {S : Nat → Prop} {G : List UInt8 → F → Prop} {w w' : World} (h : Fr tb w w') (hM : MM w' (fun b => S b ∨ w.heap.size ≤ b) tb G) : TakP eb tb S G none w (.returned (.tuple #[.slice none 0 0, EV eb])) w' := ⟨none, 0, rfl, Or.inl rfl, hM, h⟩

set_option maxRecDepth 100000 in
set_option maxHeartbeats 4000000 in
theorem saidK_by (eb : Addr) (S : Nat → Prop) (G : List UInt8 → F → Prop) (fs : List PM) (la : Option Addr) (lc tb mb : Nat) (k : Int) (nm : List ByteArray) (nma : Option Addr) (nmc : Nat) (fn : ByteArray) (ts : TM) (tsa : Option Addr) (tsc : Nat) (bt : BD) (tba : Option Addr) (tbc : Nat) (tz : TM) (tza : Option Addr) (tzc : Nat) (bd : BD) (ba : Option Addr) (bc : Nat) (z : TM) (za : Option Addr) (zc : Nat) (RL R : Option F) (w : World) (hM : MM w S tb G)
    (hTm : ∀ w', Ex w w' → Calls Tryz.prog 118 #[.agg #[.slice la fs.length lc, .map (some tb), .map (some mb)], .slice tsa (tlen ts) tsc] w' (TysP eb S RL w')) (h0 : RL = none → R = none)
    (h1 : ∀ l, RL = some l → (k = 1 ∧ R = some l) ∨ (k = 2 ∧ ∀ w' a' c', Ex w w' → SA w' (fun b => S b ∨ w.heap.size ≤ b) l a' → Calls Tryz.prog 60 #[.agg #[.slice la fs.length lc, .map (some tb), .map (some mb)], .string fn, .slice a' (len l) c'] w' (TakP eb tb (fun b => S b ∨ w.heap.size ≤ b) G R w')) ∨
      (k = 3 ∧ 0 < len l ∧ ∀ w' ga gc, Ex w w' → Calls Tryz.prog 139 #[.agg #[.slice la fs.length lc, .map (some tb), .map (some mb)], .agg #[.slice ga (len (kid l 0)) gc], .agg #[.int .i64 k, .slice nma nm.length nmc, .string fn, .slice tsa (tlen ts) tsc, .slice tba (blen bt) tbc, .slice tza (tlen tz) tzc, .slice ba (blen bd) bc, .slice za (tlen z) zc]] w' (TakP eb tb (fun b => S b ∨ w.heap.size ≤ b) G R w'))) :
    Calls Tryz.prog 117 #[.agg #[.slice la fs.length lc, .map (some tb), .map (some mb)], .agg #[.int .i64 k, .slice nma nm.length nmc, .string fn, .slice tsa (tlen ts) tsc, .slice tba (blen bt) tbc, .slice tza (tlen tz) tzc, .slice ba (blen bd) bc, .slice za (tlen z) zc]] w (TakP eb tb S G R w) := by
  have N : Hid (Ex w ((w.alloc (.cells #[.slice la fs.length lc, .map (some tb), .map (some mb)] 113)).alloc (.cells #[.int .i64 k, .slice nma nm.length nmc, .string fn, .slice tsa (tlen ts) tsc, .slice tba (blen bt) tbc, .slice tza (tlen tz) tzc, .slice ba (blen bd) bc, .slice za (tlen z) zc] 102))) := (Ex.new _ _).alloc _
  have C : Hid (∀ w', Ex ((w.alloc (.cells #[.slice la fs.length lc, .map (some tb), .map (some mb)] 113)).alloc (.cells #[.int .i64 k, .slice nma nm.length nmc, .string fn, .slice tsa (tlen ts) tsc, .slice tba (blen bt) tbc, .slice tza (tlen tz) tzc, .slice ba (blen bd) bc, .slice za (tlen z) zc] 102)) w' → w'.cell? ⟨w.heap.size, 0, none⟩ = some (.slice la fs.length lc) ∧ w'.cell? ⟨w.heap.size, 1, none⟩ = some (.map (some tb)) ∧ w'.cell? ⟨w.heap.size, 2, none⟩ = some (.map (some mb)) ∧ w'.cell? ⟨w.heap.size + 1, 0, none⟩ = some (.int .i64 k) ∧ w'.cell? ⟨w.heap.size + 1, 1, none⟩ = some (.slice nma nm.length nmc) ∧ w'.cell? ⟨w.heap.size + 1, 2, none⟩ = some (.string fn) ∧ w'.cell? ⟨w.heap.size + 1, 3, none⟩ = some (.slice tsa (tlen ts) tsc) ∧ w'.cell? ⟨w.heap.size + 1, 4, none⟩ = some (.slice tba (blen bt) tbc) ∧ w'.cell? ⟨w.heap.size + 1, 5, none⟩ = some (.slice tza (tlen tz) tzc) ∧ w'.cell? ⟨w.heap.size + 1, 6, none⟩ = some (.slice ba (blen bd) bc) ∧ w'.cell? ⟨w.heap.size + 1, 7, none⟩ = some (.slice za (tlen z) zc)) := fun w' h => by
    have hb := h.blk (show ((w.alloc (.cells #[.slice la fs.length lc, .map (some tb), .map (some mb)] 113)).alloc (.cells #[.int .i64 k, .slice nma nm.length nmc, .string fn, .slice tsa (tlen ts) tsc, .slice tba (blen bt) tbc, .slice tza (tlen tz) tzc, .slice ba (blen bd) bc, .slice za (tlen z) zc] 102)).heap[w.heap.size + 1]? = some (.cells #[.int .i64 k, .slice nma nm.length nmc, .string fn, .slice tsa (tlen ts) tsc, .slice tba (blen bt) tbc, .slice tza (tlen tz) tzc, .slice ba (blen bd) bc, .slice za (tlen z) zc] 102 (0, 0)) from heap_alloc_at _ _ (by simp))
    exact ⟨h.at ((Ex.new _ _).at (by simp)), h.at ((Ex.new _ _).at (by simp)), h.at ((Ex.new _ _).at (by simp)), blk_cell hb 0, blk_cell hb 1, blk_cell hb 2, blk_cell hb 3, blk_cell hb 4, blk_cell hb 5, blk_cell hb 6, blk_cell hb 7⟩
  have ME : Hid (∀ w', Ex w w' → MM w' (fun b => S b ∨ w.heap.size ≤ b) tb G) := fun w' h => (hM.ex h).mono fun b _ hb => Or.inl hb
  have TM0 : Hid _ := hTm
  have H0 : Hid _ := h0
  have H1 : Hid _ := h1
  clear hM hTm h0 h1
  obtain ⟨c0, c1, c2, d0, d1, d2, d3, d4, d5, d6, d7⟩ := C.out _ (Ex.refl _)
  go_enter Tryz.func117, Tryz.ntmps117
  go_wp2_with fail
  refine Calls.mono (TM0.out _ N.out) ?_
  rintro e w1 ⟨a', c', rfl, hV1, hb1⟩
  have X1 : Hid (Ex ((w.alloc (.cells #[.slice la fs.length lc, .map (some tb), .map (some mb)] 113)).alloc (.cells #[.int .i64 k, .slice nma nm.length nmc, .string fn, .slice tsa (tlen ts) tsc, .slice tba (blen bt) tbc, .slice tza (tlen tz) tzc, .slice ba (blen bd) bc, .slice za (tlen z) zc] 102)) w1) := hb1
  have X0 : Hid (Ex w w1) := N.out.trans hb1
  have V1 : Hid (SA w1 (fun b => S b ∨ w.heap.size ≤ b) (RL.getD .nil) a') := SA_mono hV1 fun b _ hs => by
    rcases hs with h | h
    · exact Or.inl h
    · exact Or.inr (Nat.le_trans N.out.size h)
  clear c0 c1 c2 d0 d1 d2 d3 d4 d5 d6 d7 hV1 hb1 TM0
  obtain ⟨c0, c1, c2, d0, d1, d2, d3, d4, d5, d6, d7⟩ := C.out _ X1.out
  cases RL with
  | none =>
    have HR : Hid (R = none) := H0.out rfl
    simp only [Option.getD_none, Option.isSome_none, errV, Bool.false_eq_true, if_false]
    go_wp2_with fail
    exact bodyPost_ret (v := .tuple #[.slice none 0 0, EV eb]) (by simp [results, Tryz.results117, go_sem]) rfl (by rw [HR.out]; exact TakP.no (Fr.of_ex X0.out _) (ME.out _ X0.out))
  | some l =>
    have V2 : Hid (SA w1 (fun b => S b ∨ w.heap.size ≤ b) l a') := V1.out
    simp only [Option.getD_some, Option.isSome_some, errV, if_true]
    clear V1
    rcases H1.out l rfl with ⟨rfl, hR⟩ | ⟨rfl, hgo⟩ | ⟨rfl, hl0, hch⟩
    · have HR : Hid (R = some l) := hR
      clear hR H0 H1
      go_wp2_with fail
      exact bodyPost_ret (v := .tuple #[.slice a' (len l) c', .nilIface]) (by simp [results, Tryz.results117, go_sem]) rfl ⟨a', c', by rw [HR.out]; rfl, by rw [HR.out]; exact V2.out, ME.out _ X0.out, Fr.of_ex X0.out _⟩
    · have GO : Hid _ := hgo
      clear hgo H0 H1
      go_wp2_with fail
      refine Calls.mono (GO.out _ a' c' X0.out V2.out) ?_
      rintro e w3 h3
      obtain ⟨a4, k4, rfl, hV4, hM4, hb4⟩ := TakP.up (S := S) h3 (Fr.of_ex X0.out _) fun _ hb => hb
      have V4 : Hid _ := hV4
      have M4 : Hid _ := hM4
      have X4 : Hid (Fr tb w w3) := hb4
      clear h3 hV4 hM4 hb4
      go_wp2_with fail
      exact bodyPost_ret (v := .tuple #[.slice a4 (len (R.getD .nil)) k4, errV eb R.isSome]) (by simp [results, Tryz.results117, go_sem]) rfl ⟨a4, k4, rfl, V4.out, M4.out, X4.out⟩
    · have CH : Hid _ := hch
      obtain ⟨b, o, hav, _, hbs, hk⟩ := SA_at V2.out hl0
      obtain ⟨a0, k0, v1, _⟩ := hk 0 hl0
      subst hav
      have i1 : (0 : Int) < (len l : Int) := by omega
      rw [Nat.add_zero] at v1
      clear hch hk H0 H1
      go_wp2_with fail
      go_region_with (go_at_call 139; refine (CH.out _ a0 k0 (X0.out.trans (by first | exact (Ex.refl _).drew | exact (Ex.refl _)))).mono ?_; rintro e w3 h3; obtain ⟨a4, k4, rfl, hV4, hM4, hb4⟩ := TakP.up (S := S) h3 (Fr.of_ex (X0.out.trans (by first | exact (Ex.refl _).drew | exact (Ex.refl _))) _) fun _ hb => hb)
      all_goals
        go_wp2_with fail
        exact bodyPost_ret (v := .tuple #[.slice a4 (len (R.getD .nil)) k4, errV eb R.isSome]) (by simp [results, Tryz.results117, go_sem]) rfl ⟨a4, k4, rfl, hV4, hM4, hb4⟩

/-- What both bodies of a choice say, if that is alike. -/
def bothK (g : F) (RY RN : Option F) : Option F := RY.bind fun x => RN.bind fun y => if len g = 0 ∧ eqT x y = true then some x else none
theorem bothK_eq {call : TCall} {rec : TEnv → BD → TM → Option F} {L : TEnv} {fn : ByteArray} {tb : BD} {tz : TM} {eb : BD} {ez : TM} {l : F} : kindK call rec L 3 fn tb tz eb ez l = bothK (kid l 0) (rec L tb tz) (rec L eb ez) := rfl

set_option maxRecDepth 100000 in
set_option maxHeartbeats 4000000 in
theorem eitherK_by (eb : Addr) (S : Nat → Prop) (G : List UInt8 → F → Prop) (fs : List PM) (la : Option Addr) (lc tb mb : Nat) (g : F) (ga : Option Addr) (gc : Nat) (k : Int) (nm : List ByteArray) (nma : Option Addr) (nmc : Nat) (fn : ByteArray) (ts : TM) (tsa : Option Addr) (tsc : Nat) (bt : BD) (tba : Option Addr) (tbc : Nat) (tz : TM) (tza : Option Addr) (tzc : Nat) (bd : BD) (ba : Option Addr) (bc : Nat) (z : TM) (za : Option Addr) (zc : Nat) (RY RN : Option F) (w : World) (hM : MM w S tb G) (hT : tb < w.heap.size) (hS : ¬ S tb) (hG : w.cell? ⟨1, 0, none⟩ = some (EV eb)) (ht1 : 1 ≠ tb)
    (hY : ∀ w', Ex w w' → Calls Tryz.prog 86 #[.agg #[.slice la fs.length lc, .map (some tb), .map (some mb)], .agg #[.slice tba (blen bt) tbc, .slice tza (tlen tz) tzc]] w' (TakP eb tb (fun b => S b ∨ w.heap.size ≤ b) G RY w'))
    (hN : ∀ w', Fr tb w w' → MM w' (fun b => S b ∨ w.heap.size ≤ b) tb G → Calls Tryz.prog 86 #[.agg #[.slice la fs.length lc, .map (some tb), .map (some mb)], .agg #[.slice ba (blen bd) bc, .slice za (tlen z) zc]] w' (TakP eb tb (fun b => S b ∨ w.heap.size ≤ b) G RN w'))
    (hfy : ∀ x, RY = some x → fitL x ∧ len x ≤ 1000000000) (hfn : ∀ x, RN = some x → fitL x ∧ len x ≤ 1000000000) :
    Calls Tryz.prog 139 #[.agg #[.slice la fs.length lc, .map (some tb), .map (some mb)], .agg #[.slice ga (len g) gc], .agg #[.int .i64 k, .slice nma nm.length nmc, .string fn, .slice tsa (tlen ts) tsc, .slice tba (blen bt) tbc, .slice tza (tlen tz) tzc, .slice ba (blen bd) bc, .slice za (tlen z) zc]] w (TakP eb tb S G (bothK g RY RN) w) := by
  have N : Hid (Ex w (((w.alloc (.cells #[.slice la fs.length lc, .map (some tb), .map (some mb)] 113)).alloc (.cells #[.slice ga (len g) gc] 55)).alloc (.cells #[.int .i64 k, .slice nma nm.length nmc, .string fn, .slice tsa (tlen ts) tsc, .slice tba (blen bt) tbc, .slice tza (tlen tz) tzc, .slice ba (blen bd) bc, .slice za (tlen z) zc] 102))) := ((Ex.new _ _).alloc _).alloc _
  have TW : Hid (tb < w.heap.size) := hT
  have C : Hid (∀ w', Fr tb (((w.alloc (.cells #[.slice la fs.length lc, .map (some tb), .map (some mb)] 113)).alloc (.cells #[.slice ga (len g) gc] 55)).alloc (.cells #[.int .i64 k, .slice nma nm.length nmc, .string fn, .slice tsa (tlen ts) tsc, .slice tba (blen bt) tbc, .slice tza (tlen tz) tzc, .slice ba (blen bd) bc, .slice za (tlen z) zc] 102)) w' → w'.cell? ⟨w.heap.size, 0, none⟩ = some (.slice la fs.length lc) ∧ w'.cell? ⟨w.heap.size, 1, none⟩ = some (.map (some tb)) ∧ w'.cell? ⟨w.heap.size, 2, none⟩ = some (.map (some mb)) ∧ w'.cell? ⟨w.heap.size + 1, 0, none⟩ = some (.slice ga (len g) gc) ∧ w'.cell? ⟨w.heap.size + 2, 4, none⟩ = some (.slice tba (blen bt) tbc) ∧ w'.cell? ⟨w.heap.size + 2, 5, none⟩ = some (.slice tza (tlen tz) tzc) ∧ w'.cell? ⟨w.heap.size + 2, 6, none⟩ = some (.slice ba (blen bd) bc) ∧ w'.cell? ⟨w.heap.size + 2, 7, none⟩ = some (.slice za (tlen z) zc) ∧ w'.cell? ⟨1, 0, none⟩ = some (EV eb)) := fun w' h => by
    have n0 : w.heap.size ≠ tb := by omega
    have n1 : w.heap.size + 1 ≠ tb := by omega
    have n2 : w.heap.size + 2 ≠ tb := by omega
    have hb := h.blk n2 (show (((w.alloc (.cells #[.slice la fs.length lc, .map (some tb), .map (some mb)] 113)).alloc (.cells #[.slice ga (len g) gc] 55)).alloc (.cells #[.int .i64 k, .slice nma nm.length nmc, .string fn, .slice tsa (tlen ts) tsc, .slice tba (blen bt) tbc, .slice tza (tlen tz) tzc, .slice ba (blen bd) bc, .slice za (tlen z) zc] 102)).heap[w.heap.size + 2]? = some (.cells #[.int .i64 k, .slice nma nm.length nmc, .string fn, .slice tsa (tlen ts) tsc, .slice tba (blen bt) tbc, .slice tza (tlen tz) tzc, .slice ba (blen bd) bc, .slice za (tlen z) zc] 102 (0, 0)) from heap_alloc_at _ _ (by simp only [World.size_alloc]))
    exact ⟨h.at n0 (((Ex.new _ _).alloc _).at (by simp)), h.at n0 (((Ex.new _ _).alloc _).at (by simp)), h.at n0 (((Ex.new _ _).alloc _).at (by simp)), h.at n1 ((Ex.new _ _).at (by simp)), blk_cell hb 4, blk_cell hb 5, blk_cell hb 6, blk_cell hb 7, h.at ht1 ((((Ex.new _ _).alloc _).alloc _).at hG)⟩
  have ME : Hid (∀ w', Ex w w' → MM w' (fun b => S b ∨ w.heap.size ≤ b) tb G) := fun w' h => (hM.ex h).mono fun b _ hb => Or.inl hb
  have NS : Hid (¬ ((fun b => S b ∨ w.heap.size ≤ b)) tb) := fun h => by
    rcases h with h | h
    · exact hS h
    · omega
  have BY0 : Hid _ := hY
  have BN0 : Hid _ := hN
  have FY : Hid _ := hfy
  have FN : Hid _ := hfn
  obtain ⟨R, hR⟩ : ∃ R, R = bothK g RY RN := ⟨_, rfl⟩
  have RR : Hid (R = bothK g RY RN) := hR
  rw [← hR]
  clear hM hT hS hG ht1 hY hN hfy hfn hR
  obtain ⟨c0, c1, c2, d0, e4, e5, e6, e7, g1⟩ := C.out _ (Fr.refl _ _)
  go_enter Tryz.func139, Tryz.ntmps139
  go_wp2_with fail
  refine Calls.mono (BY0.out _ N.out) ?_
  rintro e w1 ⟨a1, k1, rfl, hV1, hM1, hb1⟩
  have X1 : Hid (Fr tb (((w.alloc (.cells #[.slice la fs.length lc, .map (some tb), .map (some mb)] 113)).alloc (.cells #[.slice ga (len g) gc] 55)).alloc (.cells #[.int .i64 k, .slice nma nm.length nmc, .string fn, .slice tsa (tlen ts) tsc, .slice tba (blen bt) tbc, .slice tza (tlen tz) tzc, .slice ba (blen bd) bc, .slice za (tlen z) zc] 102)) w1) := hb1
  have X0 : Hid (Fr tb w w1) := (Fr.of_ex N.out _).trans hb1
  have up1 : ∀ b, b < w1.heap.size → (((fun b => S b ∨ w.heap.size ≤ b)) b ∨ (((w.alloc (.cells #[.slice la fs.length lc, .map (some tb), .map (some mb)] 113)).alloc (.cells #[.slice ga (len g) gc] 55)).alloc (.cells #[.int .i64 k, .slice nma nm.length nmc, .string fn, .slice tsa (tlen ts) tsc, .slice tba (blen bt) tbc, .slice tza (tlen tz) tzc, .slice ba (blen bd) bc, .slice za (tlen z) zc] 102)).heap.size ≤ b) → ((fun b => S b ∨ w.heap.size ≤ b)) b := fun b _ h => by
    rcases h with h | h
    · exact h
    · exact Or.inr (Nat.le_trans N.out.size h)
  have V1 : Hid (SA w1 (fun b => S b ∨ w.heap.size ≤ b) (RY.getD .nil) a1) := SA_mono hV1 up1
  have M1 : Hid (MM w1 (fun b => S b ∨ w.heap.size ≤ b) tb G) := hM1.mono up1
  clear c0 c1 c2 d0 e4 e5 e6 e7 g1 hV1 hM1 hb1 up1 BY0
  obtain ⟨c0, c1, c2, d0, e4, e5, e6, e7, g1⟩ := C.out _ X1.out
  cases RY with
  | none =>
    have HR : Hid (R = none) := RR.out
    simp only [Option.getD_none, Option.isSome_none, errV, Bool.false_eq_true, if_false]
    go_wp2_with fail
    exact bodyPost_ret (v := .tuple #[.slice none 0 0, EV eb]) (by simp [results, Tryz.results139, go_sem]) rfl (by rw [HR.out]; exact TakP.no X0.out M1.out)
  | some x =>
    have V2 : Hid (SA w1 (fun b => S b ∨ w.heap.size ≤ b) x a1) := V1.out
    simp only [Option.getD_some, Option.isSome_some, errV, if_true]
    clear V1
    go_wp2_with fail
    refine Calls.mono (BN0.out _ X0.out M1.out) ?_
    rintro e w2 ⟨a2, k2, rfl, hV2, hM2, hb2⟩
    have X2 : Hid (Fr tb (((w.alloc (.cells #[.slice la fs.length lc, .map (some tb), .map (some mb)] 113)).alloc (.cells #[.slice ga (len g) gc] 55)).alloc (.cells #[.int .i64 k, .slice nma nm.length nmc, .string fn, .slice tsa (tlen ts) tsc, .slice tba (blen bt) tbc, .slice tza (tlen tz) tzc, .slice ba (blen bd) bc, .slice za (tlen z) zc] 102)) w2) := X1.out.trans hb2
    have Y2 : Hid (Fr tb w w2) := X0.out.trans hb2
    have up2 : ∀ b, b < w2.heap.size → (((fun b => S b ∨ w.heap.size ≤ b)) b ∨ w1.heap.size ≤ b) → ((fun b => S b ∨ w.heap.size ≤ b)) b := fun b _ h => by
      rcases h with h | h
      · exact h
      · exact Or.inr (Nat.le_trans X0.out.size h)
    have W2 : Hid (SA w2 (fun b => S b ∨ w.heap.size ≤ b) (RN.getD .nil) a2) := SA_mono hV2 up2
    have V3 : Hid (SA w2 (fun b => S b ∨ w.heap.size ≤ b) x a1) := SA_ks V2.out fun b hs hlt => hb2.block b hlt fun e => NS.out (e ▸ hs)
    have M2 : Hid (MM w2 (fun b => S b ∨ w.heap.size ≤ b) tb G) := hM2.mono up2
    clear c0 c1 c2 d0 e4 e5 e6 e7 g1 hV2 hM2 hb2 up2 BN0
    obtain ⟨c0, c1, c2, d0, e4, e5, e6, e7, g1⟩ := C.out _ X2.out
    cases RN with
    | none =>
      have HR : Hid (R = none) := RR.out
      simp only [Option.getD_none, Option.isSome_none, errV, Bool.false_eq_true, if_false]
      go_wp2_with fail
      exact bodyPost_ret (v := .tuple #[.slice none 0 0, EV eb]) (by simp [results, Tryz.results139, go_sem]) rfl (by rw [HR.out]; exact TakP.no Y2.out M2.out)
    | some y =>
      have W3 : Hid (SA w2 (fun b => S b ∨ w.heap.size ≤ b) y a2) := W2.out
      simp only [Option.getD_some, Option.isSome_some, errV, if_true]
      clear W2
      have IN : Hid (∀ w', Calls Tryz.prog 148 #[.agg #[.slice ga (len g) gc]] w' fun e w'' => e = .returned (.bool (((len g : Nat) : Int) == 0)) ∧ Ex w' w'') := fun w' => isNumberType_any g ga gc _ rfl w'
      obtain ⟨z, hz⟩ : ∃ z, (((len g : Nat) : Int) == 0) = z := ⟨_, rfl⟩
      have HZ : Hid ((((len g : Nat) : Int) == 0) = z) := hz
      rw [hz] at IN
      clear hz
      have zg : 1 < w2.heap.size := World.block_lt_of_cell? _ _ g1
      cases z with
      | false =>
        have HR : Hid (R = none) := by
          show _ = _
          rw [RR.out]
          show (if len g = 0 ∧ eqT x y = true then some x else none) = none
          rw [if_neg fun h => by have h2 := HZ.out; rw [h.1] at h2; cases h2]
        go_wp2_with fail
        refine (IN.out _).mono ?_
        rintro e w3 ⟨rfl, hb3⟩
        have X3 : Hid (Fr tb w w3) := Y2.out.trans (Fr.of_ex hb3 _)
        have M3 : Hid (MM w3 (fun b => S b ∨ w.heap.size ≤ b) tb G) := M2.out.ex hb3
        have g3 := hb3.at g1
        clear hb3 c0 c1 c2 d0 e4 e5 e6 e7 g1 IN
        go_wp2_with fail
        go_region
        all_goals
          go_wp2_with fail
          refine bodyPost_ret (v := .tuple #[.slice none 0 0, EV eb]) (by simp [results, Tryz.results139, go_sem]) rfl (by rw [HR.out]; refine TakP.no ?_ ?_; first | exact X3.out | exact X3.out.drew; first | exact M3.out | exact M3.out.ex (Ex.refl _).drew)
      | true =>
        obtain ⟨f1, f2⟩ := FY.out x rfl
        obtain ⟨f3, f4⟩ := FN.out y rfl
        have EQ : Hid (∀ w', Ex w2 w' → Calls Tryz.prog 149 #[.slice a1 (len x) k1, .slice a2 (len y) k2, .func (.func 150) #[] #[]] w' fun e w'' => e = .returned (.bool (eqT x y)) ∧ Ex w' w'') := fun w' h => equalTypes_any x y a1 k1 a2 k2 w' _ _ f2 f4 f1 f3 (SA_ex V3.out h) (SA_ex W3.out h)
        have RQ : Hid (R = if eqT x y = true then some x else none) := by
          show _ = _
          rw [RR.out]
          show (if len g = 0 ∧ eqT x y = true then some x else none) = _
          have h0 : len g = 0 := by have h2 := HZ.out; simp at h2; exact h2
          by_cases he : eqT x y = true
          · rw [if_pos ⟨h0, he⟩, if_pos he]
          · rw [if_neg fun h => he h.2, if_neg he]
        obtain ⟨q, hq⟩ : ∃ q, eqT x y = q := ⟨_, rfl⟩
        rw [hq] at EQ RQ
        clear hq f1 f2 f3 f4
        go_wp2_with fail
        refine (IN.out _).mono ?_
        rintro e w3 ⟨rfl, hb3⟩
        have E3 : Hid (Ex w2 w3) := hb3
        clear hb3 c0 c1 c2 d0 e4 e5 e6 e7 IN
        go_wp2_with fail
        refine (EQ.out _ E3.out).mono ?_
        rintro e w4 ⟨rfl, hb4⟩
        have X4 : Hid (Fr tb w w4) := Y2.out.trans (Fr.of_ex (E3.out.trans hb4) _)
        have M4 : Hid (MM w4 (fun b => S b ∨ w.heap.size ≤ b) tb G) := M2.out.ex (E3.out.trans hb4)
        have V4 : Hid (SA w4 (fun b => S b ∨ w.heap.size ≤ b) x a1) := SA_ex V3.out (E3.out.trans hb4)
        have g4 := (E3.out.trans hb4).at g1
        clear hb4 g1 EQ
        cases q with
        | false =>
          have HR : Hid (R = none) := RQ.out
          go_wp2_with fail
          go_region
          all_goals
            go_wp2_with fail
            refine bodyPost_ret (v := .tuple #[.slice none 0 0, EV eb]) (by simp [results, Tryz.results139, go_sem]) rfl (by rw [HR.out]; refine TakP.no ?_ ?_; first | exact X4.out | exact X4.out.drew; first | exact M4.out | exact M4.out.ex (Ex.refl _).drew)
        | true =>
          have HR : Hid (R = some x) := RQ.out
          go_wp2_with fail
          exact bodyPost_ret (v := .tuple #[.slice a1 (len x) k1, .nilIface]) (by simp [results, Tryz.results139, go_sem]) rfl ⟨a1, k1, by rw [HR.out]; rfl, by rw [HR.out]; exact V4.out, M4.out, X4.out⟩

end Go.Proofs.YtgpdnoghlommeaaGreatDoor

namespace Go.Proofs.YtgpdnoghlommeaaGreatDoor

open Go.RowKit Go.Deep Go.Maps Go.WideMaps

attribute [local go_sem ↓] Go.wp_at_zero Go.wp_at_succ

theorem KM.ne {w : World} {S : Nat → Prop} {mb n : Nat} {L : TEnv} (h : KM w S mb n L) {p : Addr} {v : Value} (hc : w.cell? p = some v) : p.block ≠ mb := by
  obtain ⟨D, ⟨es, cl, h1, h2⟩, h3⟩ := h
  intro e
  simp [World.cell?, e, h1] at hc
theorem KM.fr {w w' : World} {S : Nat → Prop} {B mb n : Nat} {L : TEnv} (h : KM w S mb n L) (hf : Fr B w w') (hB : B ≠ mb) (hS : ¬ S B) : KM w' S mb n L := by
  have hl := h.lt
  obtain ⟨D, ⟨es, cl, h1, h2⟩, h3⟩ := h
  exact ⟨D, ⟨es, cl, (hf.block mb hl (fun e => hB e.symm)).trans h1, h2⟩, fun s => by
    obtain ⟨a, c, e, hV⟩ := h3 s
    exact ⟨a, c, e, SA_ks hV fun b hs hlt => hf.block b hlt fun e => hS (e ▸ hs)⟩⟩
/-- Two blocks that turn, of which one is new. -/
def Two2 (mi tb : Nat) (q : Nat) : Prop := q = mi ∨ q = tb
theorem FrS.fr {mi tb : Nat} {w a b : World} (h : FrS (Two2 mi tb) a b) (hx : Ex w a) (hm : w.heap.size ≤ mi) : Fr tb w b :=
  ⟨h.os.trans hx.os, h.tape.trans hx.tape, h.output.trans hx.output, Nat.le_trans hx.size h.size, fun k hk hn => (h.block k (Nat.lt_of_lt_of_le hk hx.size) fun hs => by
    rcases hs with e | e
    · omega
    · exact hn e).trans (hx.block k hk)⟩
theorem FrS.of_fr {mi tb B : Nat} {a b : World} (h : Fr B a b) (hB : Two2 mi tb B) : FrS (Two2 mi tb) a b := ⟨h.os, h.tape, h.output, h.size, fun k hk hn => h.block k hk fun e => hn (e ▸ hB)⟩

/-- Calls of functions ahead go on as they should. -/
def CallsK (eb : Addr) (l : List PM) (la : Option Addr) (lc tb : Nat) (G : List UInt8 → F → Prop) (m : Nat) (call : TCall) : Prop := ∀ q fn v, q < m → ((l.getD q pm0).name.toList == fn.toList) = true → len v = (l.getD q pm0).params.length → fitL v → nf v = v → ∀ (S : Nat → Prop) (w : World) (mb : Option Nat) (a : Option Addr) (c : Nat), w.cell? ⟨1, 0, none⟩ = some (EV eb) → MM w S tb G → (∀ b, S b → b < w.heap.size) → ¬ S tb → tb < w.heap.size → QS w (fun b => b < tb) l la → SA w S v a →
  Calls Tryz.prog 60 #[.agg #[.slice la l.length lc, .map (some tb), .map mb], .string fn, .slice a (len v) c] w (TakP eb tb S G (call fn v) w)

set_option maxRecDepth 100000 in
set_option maxHeartbeats 8000000 in
theorem kbody_any (eb : Addr) (l : List PM) (la : Option Addr) (lc tb : Nat) (G : List UInt8 → F → Prop) (m : Nat) (hm : m ≤ l.length) (call : TCall) (hok : okCallK (l.take m) call) (hcan : canC call) (hcs : CallsK eb l la lc tb G m call) : ∀ (d mb mn : Nat) (S : Nat → Prop) (L : TEnv) (ns : List ByteArray) (b : BD) (ba : Option Addr) (bc : Nat) (z : TM) (za : Option Addr) (zc : Nat) (w : World), d ≤ 6 → mn + 25000 * d ≤ 200000 → bodyB (l.take m) d ns b z = true → fitE L → canE L → BSm b → BLm b → TSm z → TLm z →
    w.cell? ⟨1, 0, none⟩ = some (EV eb) → 1 ≠ tb → KM w S mb mn L → MM w S tb G → (∀ q, S q → q < w.heap.size) → ¬ S tb → tb < w.heap.size → QS w (fun bl => bl < tb) l la → BS w (fun bl => bl < tb) b ba → MS w (fun bl => bl < tb) z za →
    Calls Tryz.prog 86 #[.agg #[.slice la l.length lc, .map (some tb), .map (some mb)], .agg #[.slice ba (blen b) bc, .slice za (tlen z) zc]] w (TakP eb tb S G (bodyK call d L b z) w) := by
  intro d
  induction d with
  | zero =>
    intro mb mn S L ns b ba bc z za zc w _ _ h
    cases h
  | succ d ih =>
    intro mb mn S L ns b ba bc z za zc w hd hmn hbok hL hLc hsm hlm hzm hzk hG h1t hC hMM hS hSt htw hQ hB hM
    obtain ⟨hb4, hba, hzt⟩ := bodyB_yes hbok
    obtain ⟨hz6, hz8⟩ := termsB_kids hzt
    have GG : Hid (∀ w', Fr tb w w' → w'.cell? ⟨1, 0, none⟩ = some (EV eb)) := fun w' h => h.at h1t hG
    have Q : Hid (∀ w', Fr tb w w' → QS w' (fun bl => bl < tb) l la) := fun _ h => QS_ks hQ fun k hk hk2 => h.block k hk2 (by have : k < tb := hk; omega)
    have B : Hid (∀ w', Fr tb w w' → BS w' (fun bl => bl < tb) b ba) := fun _ h => BS_ks hB fun k hk hk2 => h.block k hk2 (by have : k < tb := hk; omega)
    have M : Hid (∀ w', Fr tb w w' → MS w' (fun bl => bl < tb) z za) := fun _ h => MS_ks hM fun k hk hk2 => h.block k hk2 (by have : k < tb := hk; omega)
    have SM : Hid (BSm b) := hsm
    have LM : Hid (BLm b) := hlm
    have I : Hid _ := ih
    have CS : Hid (CallsK eb l la lc tb G m call) := hcs
    have OK : Hid (okCallK (l.take m) call) := hok
    have CN : Hid (canC call) := hcan
    have BA0 : Hid (∀ i, i < blen b → bindAt (l.take m) (bodyB (l.take m) d) ns b i = true) := hba
    have ET : Hid (∀ j, j ≤ blen b → ∀ L', envK call (bodyK call d) L b j = some L' → fitE L') := env_fit hok (body_fit hok d) hba hL
    have EC : Hid (∀ j L', envK call (bodyK call d) L b j = some L' → canE L') := can_env hcan (can_body hcan d) hLc
    have HS : Hid (∀ q, S q → q < w.heap.size) := hS
    have HT : Hid (¬ S tb ∧ tb < w.heap.size ∧ 1 ≠ tb) := ⟨hSt, htw, h1t⟩
    have N : Hid (Ex w ((w.alloc (.cells #[.slice la l.length lc, .map (some tb), .map (some mb)] 113)).alloc (.cells #[.slice ba (blen b) bc, .slice za (tlen z) zc] 59))) := (Ex.new _ _).alloc _
    have C : Hid (∀ w', Ex ((w.alloc (.cells #[.slice la l.length lc, .map (some tb), .map (some mb)] 113)).alloc (.cells #[.slice ba (blen b) bc, .slice za (tlen z) zc] 59)) w' → w'.cell? ⟨w.heap.size, 0, none⟩ = some (.slice la l.length lc) ∧ w'.cell? ⟨w.heap.size, 1, none⟩ = some (.map (some tb)) ∧ w'.cell? ⟨w.heap.size, 2, none⟩ = some (.map (some mb)) ∧ w'.cell? ⟨w.heap.size + 1, 0, none⟩ = some (.slice ba (blen b) bc) ∧ w'.cell? ⟨w.heap.size + 1, 1, none⟩ = some (.slice za (tlen z) zc)) := fun w' h => ⟨h.at (by simp), h.at (by simp), h.at (by simp), h.at (by simp), h.at (by simp)⟩
    obtain ⟨R, hR⟩ : ∃ R, R = bodyK call (d + 1) L b z := ⟨_, rfl⟩
    have RR : Hid (R = bodyK call (d + 1) L b z) := hR
    rw [← hR]
    have CL : Hid (∀ w', Ex w w' → Calls Tryz.prog 116 #[.map (some mb)] w' fun e w'' => ∃ mb', e = .returned (.map (some mb')) ∧ KM w'' S mb' mn L ∧ w'.heap.size ≤ mb' ∧ Ex w' w'') := fun w' h => cloneT_any w' S mb mn L (hC.ex h)
    have M0 : Hid (MM w S tb G) := hMM
    have ZK : Hid (TSm z ∧ TLm z ∧ kidsB (nsAt ns b (blen b)) 8 z = true) := ⟨hzm, hzk, hz8⟩
    clear hG hC hQ hB hM hR hsm hlm ih hzm hzk hbok hL hLc hcs hok hcan hba hzt hz8 hS hSt htw h1t hMM
    obtain ⟨V, hV⟩ : ∃ V, V = (w.alloc (.cells #[.slice la l.length lc, .map (some tb), .map (some mb)] 113)).alloc (.cells #[.slice ba (blen b) bc, .slice za (tlen z) zc] 59) := ⟨_, rfl⟩
    have HV : Hid (V = (w.alloc (.cells #[.slice la l.length lc, .map (some tb), .map (some mb)] 113)).alloc (.cells #[.slice ba (blen b) bc, .slice za (tlen z) zc] 59)) := hV
    rw [← hV] at N C
    have zV : V.heap.size = w.heap.size + 2 := by rw [hV]; simp only [World.size_alloc]
    have ZV : Hid (V.heap.size = w.heap.size + 2) := zV
    obtain ⟨c0, c1, c2, c3, c4⟩ := C.out V (Ex.refl _)
    clear hV zV
    go_enter Tryz.func86, Tryz.ntmps86
    go_upto_region 1 with fail
    rw [← HV.out]
    clear HV
    have y0 : w.heap.size < V.heap.size := by have := ZV.out; omega
    go_cut [6] from 11 to 18 (fun p7 wx => ∃ ib mi, p7 = .pointer (some ⟨ib, 0, none⟩) ∧ wx.cell? ⟨ib, 0, none⟩ = some (.slice la l.length lc) ∧ wx.cell? ⟨ib, 1, none⟩ = some (.map (some tb)) ∧ wx.cell? ⟨ib, 2, none⟩ = some (.map (some mi)) ∧ KM wx S mi mn L ∧ V.heap.size ≤ mi ∧ V.heap.size ≤ ib ∧ Ex V wx)
    case first =>
      have NS : ¬ S V.heap.size := fun h => by have := HS.out _ h; have := ZV.out; omega
      go_region_with (first | (go_at_call 116; refine (CL.out _ (N.out.trans (by first | exact (Ex.refl _).drew | exact (Ex.refl _).drew.alloc _))).mono ?_; rintro e w5 ⟨m5, rfl, hC5, hm5, hb5⟩; have xb : Ex V w5 := (by refine Ex.trans ?_ hb5; first | exact (Ex.refl _).drew | exact (Ex.refl _).drew.alloc _); have q0 := xb.at c0; have q1 := xb.at c1; have q2 := xb.at c2; have z5 : w.heap.size < w5.heap.size := (World.block_lt_of_cell? _ _ q0); have hm6 : V.heap.size ≤ m5 := (by refine Nat.le_trans ?_ hm5; first | exact Nat.le_refl _ | exact Below.size (Ex.alloc (Ex.drew (Ex.refl V)) _) | exact Below.size (Ex.drew (Ex.alloc (Ex.refl V) _))); first | (have ob : w5.heap[V.heap.size]? = some (.cells #[.slice none 0 0, .map none, .map none] 113 (0, 0)) := hb5.blk (heap_alloc_at _ _ rfl); have oc0 : w5.cell? ⟨V.heap.size, 0, none⟩ = some (.slice none 0 0) := blk_cell ob 0; have oc1 : w5.cell? ⟨V.heap.size, 1, none⟩ = some (.map none) := blk_cell ob 1; have oc2 : w5.cell? ⟨V.heap.size, 2, none⟩ = some (.map none) := blk_cell ob 2; have of0 := blk_free ob 0; have of1 := blk_free ob 1; have of2 := blk_free ob 2) | skip))
      all_goals
        go_wp2_with fail
        go_meet
        first
          | exact ⟨V.heap.size, m5, rfl, blk_cell (blk_set (blk_set (blk_set ob (.slice la l.length lc)) (.map (some tb))) (.map (some m5))) 0, blk_cell (blk_set (blk_set (blk_set ob (.slice la l.length lc)) (.map (some tb))) (.map (some m5))) 1, blk_cell (blk_set (blk_set (blk_set ob (.slice la l.length lc)) (.map (some tb))) (.map (some m5))) 2, ((hC5.fr (Fr.set (Fr.refl V.heap.size _) (Or.inl rfl) _) (hC5.ne oc0) NS).fr (Fr.set (Fr.refl V.heap.size _) (Or.inl rfl) _) (hC5.ne oc0) NS).fr (Fr.set (Fr.refl V.heap.size _) (Or.inl rfl) _) (hC5.ne oc0) NS, hm6, Nat.le_refl _, ((xb.set (Nat.le_refl _) _).set (Nat.le_refl _) _).set (Nat.le_refl _) _⟩
          | exact ⟨w5.heap.size, m5, rfl, World.cell?_alloc_new _ _ _ _, World.cell?_alloc_new _ _ _ _, World.cell?_alloc_new _ _ _ _, hC5.ex (Ex.new _ _), hm6, xb.size, xb.alloc _⟩
    case rest =>
      rename World => W2
      obtain ⟨ib, mi, rfl, i0, i1, i2, hCi, hmi, hibV, hxi⟩ := hcut
      have X2 : Hid (Ex V W2) := hxi
      have hibm : ib ≠ mi := hCi.ne i0
      have hibt : ib ≠ tb := by have := HT.out; have := ZV.out; omega
      have nB : ¬ Two2 mi tb ib := fun h => by
        rcases h with h | h
        · exact hibm h
        · exact hibt h
      have CI : Hid (∀ w', FrS (Two2 mi tb) W2 w' → w'.cell? ⟨ib, 0, none⟩ = some (.slice la l.length lc) ∧ w'.cell? ⟨ib, 1, none⟩ = some (.map (some tb)) ∧ w'.cell? ⟨ib, 2, none⟩ = some (.map (some mi))) := fun w' h => ⟨h.at nB i0, h.at nB i1, h.at nB i2⟩
      have EX : Hid (∀ w', FrS (Two2 mi tb) W2 w' → Fr tb w w') := fun w' h => h.fr (N.out.trans hxi) (by have := ZV.out; omega)
      have KC : Hid (∀ w', FrS (Two2 mi tb) W2 w' → w'.cell? ⟨w.heap.size, 0, none⟩ = some (.slice la l.length lc) ∧ w'.cell? ⟨w.heap.size, 1, none⟩ = some (.map (some tb)) ∧ w'.cell? ⟨w.heap.size, 2, none⟩ = some (.map (some mb)) ∧ w'.cell? ⟨w.heap.size + 1, 0, none⟩ = some (.slice ba (blen b) bc) ∧ w'.cell? ⟨w.heap.size + 1, 1, none⟩ = some (.slice za (tlen z) zc)) := fun w' h => by
        obtain ⟨c0, c1, c2, c3, c4⟩ := C.out W2 hxi
        have n0 : ¬ Two2 mi tb w.heap.size := fun h => by
          rcases h with h | h
          · have := ZV.out; omega
          · have := HT.out; omega
        have n1 : ¬ Two2 mi tb (w.heap.size + 1) := fun h => by
          rcases h with h | h
          · have := ZV.out; omega
          · have := HT.out; omega
        exact ⟨h.at n0 c0, h.at n0 c1, h.at n0 c2, h.at n1 c3, h.at n1 c4⟩
      have C2 : Hid (KM W2 (fun q => (S q ∨ w.heap.size ≤ q) ∧ q ≠ mi) mi mn L) := hCi.mono fun q _ hq => ⟨Or.inl hq, fun e => by have := HS.out q hq; have := ZV.out; omega⟩
      have MM2 : Hid (MM W2 (fun q => (S q ∨ w.heap.size ≤ q) ∧ q ≠ mi) tb G) := (M0.out.ex (N.out.trans hxi)).mono fun q _ hq => ⟨Or.inl hq, fun e => by have := HS.out q hq; have := ZV.out; omega⟩
      have ZM : Hid (V.heap.size ≤ mi) := hmi
      have NT : Hid (¬ ((fun q => (S q ∨ w.heap.size ≤ q) ∧ q ≠ mi)) tb ∧ tb ≠ mi) := ⟨fun h => by
        rcases h.1 with h | h
        · exact HT.out.1 h
        · have := HT.out.2.1; omega, by have := HT.out.2.1; have := ZV.out; omega⟩
      clear c0 c1 c2 c3 c4 hxi i0 i1 i2 hibm hibt nB hibV
      obtain ⟨c0, c1, c2, c3, c4⟩ := C.out W2 X2.out
      clear hCi hmi CL
      go_wp2_with fail
      clear c0 c1 c2 c3 c4
      go_loopw [8, 9, 10, 22] (fun _ _ _ i wr => ∃ (j nn : Nat) (L' : TEnv), j ≤ blen b ∧ i = .int .i64 j ∧ envK call (bodyK call d) L b j = some L' ∧ KM wr (fun q => (S q ∨ w.heap.size ≤ q) ∧ q ≠ mi) mi nn L' ∧ nn ≤ mn + 60 * j ∧ MM wr (fun q => (S q ∨ w.heap.size ≤ q) ∧ q ≠ mi) tb G ∧ FrS (Two2 mi tb) W2 wr) (fun _ _ _ i _ => blen b - (intOf i).toNat)
      case atStart => exact ⟨0, mn, L, by omega, rfl, rfl, C2.out, by omega, MM2.out, FrS.refl _ _⟩
      case round =>
        obtain ⟨j, nn, L', hj, rfl, hev, hem, hnn, hmm, hf⟩ := hrel
        have EVJ : Hid (envK call (bodyK call d) L b j = some L') := hev
        have F : Hid (FrS (Two2 mi tb) W2 wr) := hf
        have XW : Hid (Fr tb w wr) := EX.out wr hf
        have CJ : Hid (KM wr (fun q => (S q ∨ w.heap.size ≤ q) ∧ q ≠ mi) mi nn L') := hem
        have MJ : Hid (MM wr (fun q => (S q ∨ w.heap.size ≤ q) ∧ q ≠ mi) tb G) := hmm
        have TL : Hid (fitE L') := ET.out j hj L' hev
        have TC : Hid (canE L') := EC.out j L' hev
        obtain ⟨i0, i1, i2⟩ := CI.out wr hf
        obtain ⟨c0, c1, c2, c3, c4⟩ := KC.out wr hf
        have zi : ib < wr.heap.size := World.block_lt_of_cell? _ _ i0
        have zm : mi < wr.heap.size := hem.lt
        have CR : Hid (KM wr (fun q => ((S q ∨ w.heap.size ≤ q) ∧ q ≠ mi) ∧ q < wr.heap.size) mi nn L') := hem.mono fun q h1 h2 => ⟨h2, h1⟩
        have MR : Hid (MM wr (fun q => ((S q ∨ w.heap.size ≤ q) ∧ q ≠ mi) ∧ q < wr.heap.size) tb G) := hmm.mono fun q h1 h2 => ⟨h2, h1⟩
        have NR : Hid (¬ ((fun q => ((S q ∨ w.heap.size ≤ q) ∧ q ≠ mi) ∧ q < wr.heap.size)) tb ∧ tb < wr.heap.size) := ⟨fun h => NT.out.1 h.1, hmm.lt⟩
        clear hem hf hev hmm
        by_cases hlt : j < blen b
        · obtain ⟨bb, o, rfl, hbt, hbs, hk⟩ := BS_at (B.out wr XW.out) (by omega)
          obtain ⟨b0, ⟨a1, k1, b1, hnc, x1⟩, b2, ⟨a3, k3, b3, x3⟩, ⟨a4, k4, b4, x4⟩, ⟨a5, k5, b5, x5⟩, ⟨a6, k6, b6, x6⟩, ⟨a7, k7, b7, x7⟩⟩ := hk j hlt
          obtain ⟨s1, s2, s3, s4, s5, s6, s7, s8⟩ := BSm_at SM.out j hlt
          obtain ⟨t1, t2, t3⟩ := BSm_terms SM.out j hlt
          obtain ⟨l1, l2, l3, l4, l5, l6, l7, l8, l9, la', lb', lc', ld'⟩ := BLm_at LM.out j hlt
          obtain ⟨hn60, htt, _, hkind⟩ := bindB_yes (BA0.out j hlt)
          obtain ⟨ht60, hk8⟩ := termsB_kids htt
          have BTY : Hid (∀ lv, bindK call (bodyK call d) L' b j = some lv → fitL lv ∧ len lv = (bnames b j).length) := fun lv h => bind_fit OK.out (body_fit OK.out d) (BA0.out j hlt) TL.out h
          have ks : ∀ (w2 : World), Fr tb wr w2 → Ks (fun bl => bl < tb) wr w2 := fun w2 h2 k hk hk2 => h2.block k hk2 (by have : k < tb := hk; omega)
          -- a body of a choice, wherever that is gone through
          have IB : ∀ (bt : BD) (a4 : Option Addr) (k4 : Nat) (tz : TM) (a5 : Option Addr) (k5 : Nat) (U : Nat → Prop) (w4 : World), Fr tb wr w4 → (∀ q, ((fun q => ((S q ∨ w.heap.size ≤ q) ∧ q ≠ mi) ∧ q < wr.heap.size)) q → U q) → ¬ U tb → MM w4 U tb G → bodyB (l.take m) d (nsAt ns b j) bt tz = true → BSm bt → BLm bt → TSm tz → TLm tz → BS wr (fun bl => bl < tb) bt a4 → MS wr (fun bl => bl < tb) tz a5 → Calls Tryz.prog 86 #[.agg #[.slice la l.length lc, .map (some tb), .map (some mi)], .agg #[.slice a4 (blen bt) k4, .slice a5 (tlen tz) k5]] w4 (TakP eb tb U G (bodyK call d L' bt tz) w4) := fun bt a4 k4 tz a5 k5 U w4 h4 hU hUt hMU hb1 hb2 hb3 hb4 hb5 hb6 hb7 =>
            Calls.mono (I.out mi nn (fun q => U q ∧ q < w4.heap.size) L' _ bt a4 k4 tz a5 k5 w4 (by omega) (by omega) hb1 TL.out TC.out hb2 hb3 hb4 hb5 (GG.out w4 (XW.out.trans h4)) HT.out.2.2 ((CR.out.fr h4 NT.out.2 NR.out.1).mono fun q hq hs => ⟨hU q hs, hq⟩) (hMU.mono fun q hq hs => ⟨hs, hq⟩) (fun q hq => hq.2) (fun h => hUt h.1) (Nat.lt_of_lt_of_le NR.out.2 h4.size) (Q.out w4 (XW.out.trans h4)) (BS_ks hb6 (ks w4 h4)) (MS_ks hb7 (ks w4 h4))) fun e w5 h5 => TakP.up h5 (Fr.refl _ _) fun q hq => Or.inl hq.1
          have HI : Hid (∀ w', Ex wr w' → Calls Tryz.prog 117 #[.agg #[.slice la l.length lc, .map (some tb), .map (some mi)], .agg #[.int .i64 (bkind b j), .slice a1 (bnames b j).length k1, .string (bfn b j), .slice a3 (tlen (bterms b j)) k3, .slice a4 (blen (bthen b j)) k4, .slice a5 (tlen (btsay b j)) k5, .slice a6 (blen (belse b j)) k6, .slice a7 (tlen (besay b j)) k7]] w' (TakP eb tb (fun q => ((S q ∨ w.heap.size ≤ q) ∧ q ≠ mi) ∧ q < wr.heap.size) G (bindK call (bodyK call d) L' b j) w')) := fun w' h => by
            have e1 : Fr tb w w' := XW.out.trans (Fr.of_ex h _)
            have hS2 : ∀ w2, Ex wr w2 → ∀ q, ((fun q => ((S q ∨ w.heap.size ≤ q) ∧ q ≠ mi) ∧ q < wr.heap.size)) q → q < w2.heap.size := fun w2 h2 q hq => Nat.lt_of_lt_of_le hq.2 h2.size
            refine saidK_by eb (fun q => ((S q ∨ w.heap.size ≤ q) ∧ q ≠ mi) ∧ q < wr.heap.size) G l la lc tb mi _ _ a1 k1 _ _ a3 k3 _ a4 k4 _ a5 k5 _ a6 k6 _ a7 k7 (evT L' (bterms b j)) _ w' (MR.out.ex h)
              (fun w2 h2 => kterms_any eb (fun q => ((S q ∨ w.heap.size ≤ q) ∧ q ≠ mi) ∧ q < wr.heap.size) L' TL.out la l.length lc (some tb) mi nn (nsAt ns b j) 8 _ a3 k3 w2 (GG.out w2 (e1.trans (Fr.of_ex h2 _))) (CR.out.ex (h.trans h2)) (hS2 w2 (h.trans h2)) (MS_mono (MS_ks x3 (ks w2 (Fr.of_ex (h.trans h2) _))) fun _ _ _ => Nat.zero_le _) (by omega) t1 l5 hk8) (fun h0 => by unfold bindK; rw [h0]; rfl) ?_
            intro lv hlv
            have hR : bindK call (bodyK call d) L' b j = kindK call (bodyK call d) L' (bkind b j) (bfn b j) (bthen b j) (btsay b j) (belse b j) (besay b j) lv := by unfold bindK; rw [hlv]; rfl
            have hlen := evT_len hlv
            have hfit : fitL lv := evt_fit TL.out _ 8 _ hk8 lv hlv
            have hnf : nf lv = lv := nf_evT TC.out nf_part hlv
            -- what all that is told lies in
            have uT : ∀ (w2 : World), Ex w' w2 → ¬ (fun q => ((fun q => ((S q ∨ w.heap.size ≤ q) ∧ q ≠ mi) ∧ q < wr.heap.size)) q ∨ w'.heap.size ≤ q) tb := fun w2 _ hq => by
              rcases hq with hq | hq
              · exact NR.out.1 hq
              · have := NR.out.2; have := h.size; omega
            rcases hkind with ⟨hk1, _, _⟩ | ⟨hk2, ha1, ha2, _⟩ | ⟨hk3, ht1, hr1, hr2, _, _⟩
            · exact Or.inl ⟨hk1, by rw [hR, hk1]; rfl⟩
            · obtain ⟨q, hq1, hq2, hq3, hq4⟩ := arity_find hm ha1
              rw [hq4] at ha2
              refine Or.inr (Or.inl ⟨hk2, fun w2 a' c' h2 hV => ?_⟩)
              rw [hR, show kindK call (bodyK call d) L' (bkind b j) (bfn b j) (bthen b j) (btsay b j) (belse b j) (besay b j) lv = call (bfn b j) lv by unfold kindK; rw [if_pos hk2]]
              have e2 := e1.trans (Fr.of_ex h2 tb)
              exact Calls.mono (CS.out q (bfn b j) lv hq1 hq2 (hlen.trans ha2.symm) hfit hnf (fun p => (((fun q => ((S q ∨ w.heap.size ≤ q) ∧ q ≠ mi) ∧ q < wr.heap.size)) p ∨ w'.heap.size ≤ p) ∧ p < w2.heap.size) w2 (some mi) a' c' (GG.out w2 e2) (((MR.out.ex h).ex h2).mono fun p hp hs => ⟨Or.inl hs, hp⟩) (fun p hp => hp.2) (fun hp => uT w2 h2 hp.1) (Nat.lt_of_lt_of_le NR.out.2 (h.trans h2).size) (Q.out w2 e2) (SA_mono hV fun p hp hs => ⟨hs, hp⟩)) fun e w5 h5 => TakP.up h5 (Fr.refl _ _) fun p hp => Or.inl hp.1
            · refine Or.inr (Or.inr ⟨hk3, by omega, fun w2 ga gc h2 => ?_⟩)
              rw [hR, show kindK call (bodyK call d) L' (bkind b j) (bfn b j) (bthen b j) (btsay b j) (belse b j) (besay b j) lv = bothK (kid lv 0) (bodyK call d L' (bthen b j) (btsay b j)) (bodyK call d L' (belse b j) (besay b j)) by rw [hk3]; rfl]
              have h3 := h.trans h2
              have e3 := e1.trans (Fr.of_ex h2 tb)
              have hfb : ∀ (bt : BD) (tz : TM), bodyB (l.take m) d (nsAt ns b j) bt tz = true → tlen tz ≤ 9223372036854775807 → ∀ x, bodyK call d L' bt tz = some x → fitL x ∧ len x ≤ 1000000000 := fun bt tz hb _ x hx => by
                obtain ⟨r1, r2⟩ := body_fit OK.out d _ _ _ _ _ hb TL.out hx
                refine ⟨r1, ?_⟩
                cases d with
                | zero => cases hb
                | succ d' =>
                  have := (termsB_kids (bodyB_yes hb).2.2).1
                  omega
              have UT2 : ∀ (w4 : World), Fr tb w2 w4 → ∀ q, ((fun q => ((S q ∨ w.heap.size ≤ q) ∧ q ≠ mi) ∧ q < wr.heap.size)) q → (((((fun q => ((S q ∨ w.heap.size ≤ q) ∧ q ≠ mi) ∧ q < wr.heap.size)) q ∨ w'.heap.size ≤ q) ∧ q < w2.heap.size) ∨ w2.heap.size ≤ q) := fun w4 _ q hq => Or.inl ⟨Or.inl hq, Nat.lt_of_lt_of_le hq.2 h3.size⟩
              have NT2 : ¬ (fun q => ((((fun q => ((S q ∨ w.heap.size ≤ q) ∧ q ≠ mi) ∧ q < wr.heap.size)) q ∨ w'.heap.size ≤ q) ∧ q < w2.heap.size) ∨ w2.heap.size ≤ q) tb := fun hq => by
                rcases hq with hq | hq
                · exact uT w2 h2 hq.1
                · have := NR.out.2; have := h3.size; omega
              exact Calls.mono (eitherK_by eb (fun q => (((fun q => ((S q ∨ w.heap.size ≤ q) ∧ q ≠ mi) ∧ q < wr.heap.size)) q ∨ w'.heap.size ≤ q) ∧ q < w2.heap.size) G l la lc tb mi (kid lv 0) ga gc _ _ a1 k1 _ _ a3 k3 _ a4 k4 _ a5 k5 _ a6 k6 _ a7 k7 (bodyK call d L' (bthen b j) (btsay b j)) (bodyK call d L' (belse b j) (besay b j)) w2 (((MR.out.ex h).ex h2).mono fun p hp hs => ⟨Or.inl hs, hp⟩) (Nat.lt_of_lt_of_le NR.out.2 h3.size) (fun hp => uT w2 h2 hp.1) (GG.out w2 e3) HT.out.2.2
                (fun w4 h4 => IB _ a4 k4 _ a5 k5 _ w4 ((Fr.of_ex h3 tb).trans (Fr.of_ex h4 tb)) (UT2 w4 (Fr.of_ex h4 tb)) NT2 (((MR.out.ex h3).ex h4).mono fun p _ hs => UT2 w4 (Fr.of_ex h4 tb) p hs) hr1 s4 l7 t2 l9 x4 x5)
                (fun w4 h4 hM4 => IB _ a6 k6 _ a7 k7 _ w4 ((Fr.of_ex h3 tb).trans h4) (UT2 w4 h4) NT2 hM4 hr2 s7 lb' t3 ld' x6 x7)
                (hfb _ _ hr1 (by omega)) (hfb _ _ hr2 (by omega))) fun e w5 h5 => TakP.up h5 (Fr.refl _ _) fun p hp => Or.inl hp.1
          have BN : Hid (bindK call (bodyK call d) L' b j = none → R = none) := fun h => RR.out.trans (bodyK_none hlt EVJ.out h)
          have XN : Hid (∀ w', Fr tb wr w' → XS w' (fun bl => bl < tb) (bnames b j) a1) := fun w' h => XS_ks x1 (ks w' h)
          have ZN : Hid (XLm (bnames b j) ∧ (bnames b j).length ≤ 60) := ⟨l2, hn60⟩
          have NJ : Hid (nn + 60 ≤ 999999) := by
            show _ ≤ _
            omega
          clear hk x1 x3 x4 x5 x6 x7 s1 s2 s3 s4 s5 s6 s7 s8 t1 t2 t3 l1 l2 l3 l4 l5 l6 l7 l8 l9 la' lb' lc' ld' c0 c1 c2 c3 c4 hn60 htt hkind ht60 hk8 hnc IB ks hbt
          go_wp2_with fail
          refine Calls.mono (HI.out _ (Ex.new _ _)) ?_
          rintro e w3 ⟨a9, k9, rfl, hV3, hM3, hb3⟩
          have X3 : Hid (Fr tb wr w3) := (Fr.of_ex (Ex.new _ _) _).trans hb3
          have F3 : Hid (FrS (Two2 mi tb) W2 w3) := F.out.trans (FrS.of_fr X3.out (Or.inr rfl))
          have up3 : ∀ q, q < w3.heap.size → (((fun q => ((S q ∨ w.heap.size ≤ q) ∧ q ≠ mi) ∧ q < wr.heap.size)) q ∨ (wr.alloc (.cells #[.int .i64 (bkind b j), .slice a1 (bnames b j).length k1, .string (bfn b j), .slice a3 (tlen (bterms b j)) k3, .slice a4 (blen (bthen b j)) k4, .slice a5 (tlen (btsay b j)) k5, .slice a6 (blen (belse b j)) k6, .slice a7 (tlen (besay b j)) k7] 102)).heap.size ≤ q) → ((fun q => (S q ∨ w.heap.size ≤ q) ∧ q ≠ mi)) q := fun q _ hq => by
            rcases hq with h | h
            · exact h.1
            · rw [World.size_alloc] at h
              exact ⟨Or.inr (by have := XW.out.size; omega), by omega⟩
          have V3 : Hid (SA w3 (fun q => (S q ∨ w.heap.size ≤ q) ∧ q ≠ mi) ((bindK call (bodyK call d) L' b j).getD .nil) a9) := SA_mono hV3 up3
          have M3 : Hid (MM w3 (fun q => (S q ∨ w.heap.size ≤ q) ∧ q ≠ mi) tb G) := hM3.mono up3
          have nbw : wr.heap.size ≠ tb := by have := NR.out.2; omega
          have b1' : w3.cell? ⟨wr.heap.size, 1, none⟩ = some (.slice a1 (bnames b j).length k1) := hb3.at nbw (by simp)
          have zb3 : wr.heap.size < w3.heap.size := World.block_lt_of_cell? _ _ b1'
          clear hV3 hM3 HI b0 b1 b2 b3 b4 b5 b6 b7 up3 nbw
          obtain ⟨r, hr⟩ : ∃ r, bindK call (bodyK call d) L' b j = r := ⟨_, rfl⟩
          rw [hr] at BN BTY V3 ⊢
          have HRJ : Hid (bindK call (bodyK call d) L' b j = r) := hr
          clear hr
          cases r with
          | none =>
            have HR : Hid (R = none) := BN.out rfl
            have ME : Hid (MM w3 (fun q => S q ∨ w.heap.size ≤ q) tb G) := M3.out.mono fun q _ hq => hq.1
            have FE : Hid (Fr tb w w3) := EX.out _ F3.out
            simp only [Option.getD_none, Option.isSome_none, errV, Bool.false_eq_true, if_false]
            go_wp2_with fail
            exact bodyPost_ret (v := .tuple #[.slice none 0 0, EV eb]) (by simp [results, Tryz.results86, go_sem]) rfl (by rw [HR.out]; exact TakP.no FE.out ME.out)
          | some lv =>
            obtain ⟨tlv, nlv⟩ := BTY.out lv rfl
            have NLV : Hid ((bnames b j).length = len lv) := nlv.symm
            have V4 : Hid (SA w3 (fun q => (S q ∨ w.heap.size ≤ q) ∧ q ≠ mi) lv a9) := V3.out
            have EVN : Hid (envK call (bodyK call d) L b (j + 1) = some (setAll L' (bnames b j) lv (bnames b j).length)) := envK_step EVJ.out HRJ.out
            have BE : Hid (Calls Tryz.prog 85 #[.map (some mi), .slice a1 (bnames b j).length k1, .slice a9 (len lv) k9] w3 (BdP (fun q => (S q ∨ w.heap.size ≤ q) ∧ q ≠ mi) mi nn L' (bnames b j) lv w3)) := bindEachT_any (fun q => (S q ∨ w.heap.size ≤ q) ∧ q ≠ mi) mi nn L' (bnames b j) a1 k1 lv a9 k9 w3 (CJ.out.fr X3.out NT.out.2 NT.out.1) (fun h => h.2 rfl) (fun w' h => XS_mono (XS_ks (XN.out w3 X3.out) fun k hk hk2 => h.block k hk2 (fun e => by have := ZM.out; have := ZV.out; have : k < tb := hk; have := HT.out.2.1; omega)) fun _ _ _ => Nat.zero_le _) ZN.out.1 V4.out NLV.out (by have := ZN.out.2; have := NJ.out; omega)
            clear BN V3 tlv nlv BTY
            simp only [Option.getD_some, Option.isSome_some, errV, if_true]
            obtain ⟨i0', i1', i2'⟩ := CI.out w3 F3.out
            have zi3 : ib < w3.heap.size := World.block_lt_of_cell? _ _ i0'
            clear i0 i1 i2
            go_wp2_with fail
            refine Calls.mono BE.out ?_
            rintro e w4 ⟨rfl, hm4, hf4⟩
            have F4 : Hid (FrS (Two2 mi tb) W2 w4) := F3.out.trans (FrS.of_fr hf4 (Or.inl rfl))
            have M4 : Hid _ := hm4
            have MM4 : Hid (MM w4 (fun q => (S q ∨ w.heap.size ≤ q) ∧ q ≠ mi) tb G) := M3.out.fr hf4 (fun e => NT.out.2 e.symm) fun h => h.2 rfl
            clear hm4 hf4 BE
            go_wp2_with fail
            go_roundw
            case rel => exact ⟨j + 1, nn + (bnames b j).length, _, by omega, by go_num, EVN.out, M4.out, by have := ZN.out.2; omega, MM4.out, F4.out⟩
            case measure => simp [intOf]; omega
        · have hje : j = blen b := by omega
          have HR : Hid (R = evT L' z) := by
            show R = _
            rw [RR.out, bodyK, ← hje, EVJ.out]; rfl
          have LT : Hid (Calls Tryz.prog 118 #[.agg #[.slice la l.length lc, .map (some tb), .map (some mi)], .slice za (tlen z) zc] wr (TysP eb (fun q => ((S q ∨ w.heap.size ≤ q) ∧ q ≠ mi) ∧ q < wr.heap.size) R wr)) := by
            rw [HR.out]
            exact kterms_any eb (fun q => ((S q ∨ w.heap.size ≤ q) ∧ q ≠ mi) ∧ q < wr.heap.size) L' TL.out la l.length lc (some tb) mi nn (nsAt ns b (blen b)) 8 z za zc wr (GG.out wr XW.out) CR.out (fun q hq => hq.2) (MS_mono (M.out wr XW.out) fun _ _ _ => Nat.zero_le _) (by omega) ZK.out.1 ZK.out.2.1 ZK.out.2.2
          clear hje
          go_wp2_with fail
          refine Calls.mono LT.out ?_
          rintro e w3 ⟨a4, k4, rfl, hV4, hb4⟩
          have up4 : ∀ q, q < w3.heap.size → (((fun q => ((S q ∨ w.heap.size ≤ q) ∧ q ≠ mi) ∧ q < wr.heap.size)) q ∨ wr.heap.size ≤ q) → (S q ∨ w.heap.size ≤ q) := fun q _ hq => by
            rcases hq with h | h
            · exact h.1.1
            · exact Or.inr (Nat.le_trans XW.out.size h)
          have V4 : Hid (SA w3 (fun q => S q ∨ w.heap.size ≤ q) (R.getD .nil) a4) := SA_mono hV4 up4
          have M4 : Hid (MM w3 (fun q => S q ∨ w.heap.size ≤ q) tb G) := (MR.out.ex hb4).mono fun q _ hq => hq.1.1
          have X4 : Hid (Fr tb w w3) := XW.out.trans (Fr.of_ex hb4 _)
          clear hV4 hb4 up4
          go_wp2_with fail
          exact bodyPost_ret (v := .tuple #[.slice a4 (len (R.getD .nil)) k4, errV eb R.isSome]) (by simp [results, Tryz.results86, go_sem]) rfl ⟨a4, k4, rfl, V4.out, M4.out, X4.out⟩

end Go.Proofs.YtgpdnoghlommeaaGreatDoor
