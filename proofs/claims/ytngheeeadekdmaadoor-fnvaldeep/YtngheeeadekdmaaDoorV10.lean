/- Walks: the shape of a value, by the specification. -/
import Derived.Test.YtngheeeadekdmaaDoorV5

import Derived.Test.YtngheeeadekdmaaDoorV7

namespace Go.Proofs.YtngheeeadekdmaaDoor

open Go.RowKit Go.Deep

attribute [local go_sem ↓] Go.wp_at_zero Go.wp_at_succ

/-- The shape of a value, at most so deep. -/
def sh : Nat → F → Option F
  | 0, _ => none
  | r + 1, f => if len f = 0 then some .nil else if len f = 2 then (sh r (kid f 0)).bind fun a => (sh r (kid f 1)).bind fun b => some (two 0 a 0 b) else none

theorem sh_nil {r : Nat} {f : F} (h : len f = 0) : sh (r + 1) f = some .nil := by simp [sh, h]
theorem sh_two {r : Nat} {f : F} (h : len f = 2) : sh (r + 1) f = (sh r (kid f 0)).bind fun a => (sh r (kid f 1)).bind fun b => some (two 0 a 0 b) := by simp [sh, h]
theorem sh_bad {r : Nat} {f : F} (h : len f ≠ 0) (h2 : len f ≠ 2) : sh r f = none := by cases r <;> simp [sh, h, h2]

theorem vType_sh : ∀ (r : Nat) (n : Int) (f u : F), vType r n f = some u → sh r f = some u
  | 0, n, f, u, h => by simp [vType] at h
  | r + 1, n, f, u, h => by
    by_cases h0 : len f = 0
    · rw [vType_num h0] at h
      split at h
      · rw [sh_nil h0]; exact h
      · cases h
    · by_cases hb : len f = 2 ∧ n = 0
      · rw [vType_two hb.1 hb.2] at h
        rw [sh_two hb.1]
        cases ha : vType r (num f 0) (kid f 0) with
        | none => rw [ha] at h; cases h
        | some a =>
          cases hc : vType r (num f 1) (kid f 1) with
          | none => rw [ha, hc] at h; cases h
          | some b => rw [ha, hc] at h; rw [vType_sh r _ _ _ ha, vType_sh r _ _ _ hc]; exact h
      · rw [vType_bad h0 hb] at h; cases h

/-- What is built so far. -/
def shT (r : Nat) (f : F) : F := two 0 ((sh r (kid f 0)).getD .nil) 0 ((sh r (kid f 1)).getD .nil)

theorem shT_kid (r : Nat) (f : F) (j : Nat) (hj : j < 2) : kid (shT r f) j = (sh r (kid f j)).getD .nil := by
  have : j = 0 ∨ j = 1 := by omega
  rcases this with rfl | rfl <;> rfl

theorem sh_all {r : Nat} {f : F} (h2 : len f = 2) (h : ∀ j, j < 2 → (sh r (kid f j)).isSome = true) : sh (r + 1) f = some (shT r f) := by
  have h0 := h 0 (by omega)
  have h1 := h 1 (by omega)
  rw [sh_two h2]
  unfold shT
  cases ha : sh r (kid f 0) with
  | none => rw [ha] at h0; cases h0
  | some a =>
    cases hb : sh r (kid f 1) with
    | none => rw [hb] at h1; cases h1
    | some b => rfl

theorem sh_some {r : Nat} {f : F} (h2 : len f = 2) {j : Nat} (hj : j < 2) (h : (sh r (kid f j)).isSome = false) : sh (r + 1) f = none := by
  rw [sh_two h2]
  have : j = 0 ∨ j = 1 := by omega
  rcases this with rfl | rfl
  · cases ha : sh r (kid f 0) with
    | none => rfl
    | some a => rw [ha] at h; cases h
  · cases hb : sh r (kid f 1) with
    | none => cases sh r (kid f 0) <;> rfl
    | some a => rw [hb] at h; cases h

/-- What l1Of tells. -/
def OfPost (r : Nat) (f : F) (w : World) (e : Ending) (w' : World) : Prop := ∃ a' m c', e = .returned (.tuple #[.agg #[.slice a' m c'], .bool (sh r f).isSome]) ∧ (∀ u, sh r f = some u → m = len u ∧ TA w' w.heap.size u a') ∧ Ex w w'
theorem OfPost.none {r : Nat} {f : F} {w w' : World} {a' : Option Addr} {m c' : Nat} (h : sh r f = Option.none) (hx : Ex w w') : OfPost r f w (.returned (.tuple #[.agg #[.slice a' m c'], .bool false])) w' := ⟨a', m, c', by rw [h]; rfl, fun u hu => (by rw [h] at hu; cases hu), hx⟩

set_option maxRecDepth 100000 in
set_option maxHeartbeats 4000000 in
theorem l1Of_any : ∀ (r : Nat) (d : Int) (n : Int) (f : F) (a : Option Addr) (c lo : Nat) (w : World), d = r → r ≤ 100 → VA w lo f a →
    Calls Tryd.prog 26 #[.agg #[.int .i64 n, .slice a (len f) c], .int .i64 d] w (OfPost r f w)
  | 0, d, n, f, a, c, lo, w, hd, hr, hT => by
    subst hd
    have V : Hid (sh 0 f = none) := rfl
    go_enter Tryd.func26, Tryd.ntmps26
    go_wp2_with fail
    exact bodyPost_ret (v := .tuple #[.agg #[.slice none 0 0], .bool false]) (by simp [results, Tryd.results26, go_sem]) rfl (OfPost.none V.out (((Ex.new _ _).alloc _).alloc _))
  | r + 1, d, n, f, a, c, lo, w, hd, hr, hT => by
    have T : Hid (VA w lo f a) := hT
    have I : Hid _ := l1Of_any r
    have D : Hid (d = (r + 1 : Nat)) := hd
    have hd1 : 1 ≤ d := by omega
    have hd2 : d ≤ 100 := by omega
    have e1 : decide (d < 1) = false := by simp; omega
    obtain ⟨i0, hi, hz0, hz1, hz2⟩ := info_parts Tryd.info41
    clear hT hd
    by_cases hl : len f = 0
    · have V : Hid (sh (r + 1) f = some .nil) := sh_nil hl
      go_enter Tryd.func26, Tryd.ntmps26
      go_wp2_with fail
      go_loopw [7] (fun i wr => i = .int .i64 0 ∧ Ex w wr ∧ wr.heap[w.heap.size]? = some (.cells #[.int .i64 n, .slice a 0 c] 25 (0, 0)) ∧ wr.heap[w.heap.size + 1]? = some (.cells #[.slice none 0 0] 41 (0, 0)) ∧ wr.heap[w.heap.size + 2]? = some (.cells #[.slice none 0 0] 41 (0, 0))) (fun i _ => 0)
      case atStart => exact ⟨rfl, ((Ex.new _ _).alloc _).alloc _, ((Ex.new _ _).alloc _).blk (heap_alloc_new _ _), (Ex.new _ _).blk (heap_alloc_at _ _ (by simp)), heap_alloc_at _ _ (by simp)⟩
      case round =>
        obtain ⟨rfl, hx, hbx, hrb, hob⟩ := hrel
        have c0 := two_cell1 hbx
        have c1 := cell_of_one hob
        have c2 := free_of_one hrb
        have c3 := cell_of_one hrb
        go_wp2_with fail
        have hres := World.cell?_setCell_same wr ⟨w.heap.size + 1, 0, none⟩ (.slice none 0 0) c3
        exact bodyPost_ret (v := .tuple #[.agg #[.slice none 0 0], .bool true]) (by simp [results, Tryd.results26, go_sem, hres]) rfl ⟨none, 0, 0, by rw [V.out]; rfl, fun u h => (by rw [V.out] at h; cases h; exact ⟨rfl, Or.inl rfl⟩), hx.set (Nat.le_succ _) _⟩
    · have e0 : ((len f : Int) != 0) = true := by simp; omega
      have n0 : ¬ (len f : Int) = 0 := by omega
      by_cases h2 : len f = 2
      · have e2 : ((len f : Int) != 2) = false := by simp [h2]
        have H2 : Hid (len f = 2) := h2
        have hb : len f ≤ 2 := by omega
        have A1 : Hid ((∀ j, j < 2 → (sh r (kid f j)).isSome = true) → sh (r + 1) f = some (shT r f)) := sh_all h2
        have A0 : Hid (∀ j, j < 2 → (sh r (kid f j)).isSome = false → sh (r + 1) f = none) := fun j hj h => sh_some h2 hj h
        clear h2 hl
        go_enter Tryd.func26, Tryd.ntmps26
        go_wp2_with fail
        go_loopw [7] (fun i wr => ∃ (k : Nat) (v : Value) (cs : List Value), k ≤ len f ∧ i = .int .i64 k ∧ Ex (w.alloc (.cells #[.int .i64 n, .slice a (len f) c] 25)) wr ∧ wr.heap[w.heap.size + 1]? = some (.cells #[.slice none 0 0] 41 (0, 0)) ∧ wr.heap[w.heap.size + 2]? = some (.cells #[v] 41 (0, 0)) ∧ wr.ownsRow (w.heap.size + 3) 41 1 v k cs ∧ (∀ j, j < k → ∃ a' c', cs[j]? = some (.slice a' (len (kid (shT r f) j)) c') ∧ SA wr (fun b => w.heap.size + 3 ≤ b ∧ v.ownBlock ≠ some b) (kid (shT r f) j) a') ∧ (∀ j, j < k → (sh r (kid f j)).isSome = true)) (fun i _ => len f - (intOf i).toNat)
        case atStart =>
          refine ⟨0, .slice none 0 0, [], Nat.zero_le _, rfl, (Ex.new _ _).alloc _, ?_, ?_, World.ownsRow_nil _ _ _ _, fun j hj => by omega, fun j hj => by omega⟩
          · exact (Ex.new _ _).blk (heap_alloc_at _ _ (by simp))
          · exact heap_alloc_at _ _ (by simp)
        case round =>
          obtain ⟨k, v, cs, hk, rfl, hx, hrb, hob, hown, hkids, hall⟩ := hrel
          have hbx : wr.cell? ⟨w.heap.size, 1, none⟩ = some (.slice a (len f) c) := Ex.at hx (by simp)
          have hw : Ex w wr := (Ex.new _ _).trans hx
          have O : Hid (wr.ownsRow (w.heap.size + 3) 41 1 v k cs) := hown
          have KI : Hid _ := hkids
          have AL : Hid (∀ j, j < k → (sh r (kid f j)).isSome = true) := hall
          have c1 := cell_of_one hob
          have c2 := free_of_one hob
          have c3 := cell_of_one hrb
          have c4 := free_of_one hrb
          clear hown hkids hall
          by_cases hlt : k < len f
          · obtain ⟨b, o, rfl, hlo, hbs, hkk⟩ := VA_at (VA_below T.out hw) (by omega)
            obtain ⟨hn1, a1, k1, hc1, ht1⟩ := hkk k hlt
            have V1 : Hid (VA wr lo (kid f k) a1) := ht1
            have z0 : w.heap.size + 2 < wr.heap.size := lt_of_block hob
            have KQ : Hid (kid (shT r f) k = (sh r (kid f k)).getD .nil) := shT_kid r f k (by omega)
            clear hkk ht1
            go_wp2_with fail
            refine (I.out (d - 1) (num f k) (kid f k) a1 k1 lo _ (by have := D.out; omega) (by omega) V1.out).mono ?_
            rintro e w1 ⟨a2, m2, k2, rfl, ht2, hb2⟩
            have hob1 := hb2.blk hob
            have hrb1 := hb2.blk hrb
            have q1 := cell_of_one hob1
            have q2 := free_of_one hob1
            have q3 := cell_of_one hrb1
            have q4 := free_of_one hrb1
            have q5 : w1.cell? ⟨w.heap.size, 1, none⟩ = some (.slice (some ⟨b, o, none⟩) (len f) c) := hb2.at hbx
            have z1 := hb2.size
            have z2 : w.heap.size + 2 < w1.heap.size := by omega
            have z3 : w.heap.size + 1 < w1.heap.size := by omega
            clear c1 c2 c3 c4
            cases hs : sh r (kid f k) with
            | none =>
              have V : Hid (sh (r + 1) f = none) := A0.out k (by omega) (by rw [hs]; rfl)
              simp only [Option.isSome_none]
              clear ht2
              obtain ⟨av, cv, hv⟩ : ∃ av cv, v = .slice av k cv := by
                obtain ⟨_, ⟨h1, h2⟩ | ⟨g, cap, _, h1, _⟩⟩ := O.out
                · exact ⟨none, 0, by rw [h1, h2]⟩
                · exact ⟨_, _, h1⟩
              subst hv
              go_wp2_with fail
              have hres := res_at q3 (.slice av k cv) (.cells #[.slice a2 m2 k2] 41)
              have hxf : Ex w ((w1.setCell ⟨w.heap.size + 1, 0, none⟩ (.slice av k cv)).alloc (.cells #[.slice a2 m2 k2] 41)) := ((hw.trans hb2).set (Nat.le_succ _) _).alloc _
              refine bodyPost_ret (v := .tuple #[.agg #[.slice av k cv], .bool false]) (by simp [results, Tryd.results26, go_sem, hres]) rfl ?_
              exact OfPost.none V.out hxf
            | some u =>
              have HS : Hid (sh r (kid f k) = some u) := hs
              obtain ⟨hm2, ht2'⟩ := ht2 u hs
              subst hm2
              have hku : kid (shT r f) k = u := by rw [KQ.out, hs]; rfl
              subst hku
              simp only [Option.isSome_some]
              obtain ⟨w1', hw1'⟩ : ∃ w1', w1' = w1.alloc (.cells #[.slice a2 (len (kid (shT r f) k)) k2] 41) := ⟨_, rfl⟩
              have hb2' : Ex wr w1' := hw1' ▸ (hb2.trans (Ex.new _ _))
              have O1 : Hid (w1'.ownsRow (w.heap.size + 3) 41 1 v k cs) := owns_ex O.out hb2'
              have TT : Hid (TA w1' wr.heap.size (kid (shT r f) k) a2) := hw1' ▸ TA_below ht2' (Ex.new _ _)
              have q1' : w1'.cell? ⟨w.heap.size + 2, 0, none⟩ = some v := hw1' ▸ (Ex.new _ _).at q1
              have hob1' := hb2'.blk hob
              have hrb1' := hb2'.blk hrb
              have z1' : w1'.heap.size = w1.heap.size + 1 := by rw [hw1', World.size_alloc]
              have cN : w1'.cell? ⟨w1.heap.size, 0, none⟩ = some (.slice a2 (len (kid (shT r f) k)) k2) := hw1' ▸ World.cell?_alloc_new _ _ _ _
              clear ht2 ht2' hs
              go_wp2_with (at_builtin; rw [← hw1']; refine wpList_append_lies _ rfl (.tmp 48) (.tmp 50) 39 rfl (w.heap.size + 3) 41 i0 (.agg #[.slice none 0 0]) 1 24 Tryd.underlying39 hi hz0 hz1 hz2 rfl (by decide) v k cs rfl (World.ownsRow.alloc O1.out _) ⟨w1'.heap.size, 0, none⟩ 1 1 [.slice a2 (len (kid (shT r f) k)) k2] ?hx rfl ?c1 ?c2 (by omega) (by unfold maxLen; omega) (by omega) (by rw [World.size_alloc]; omega) (w1'.heap.size + 1) (by simp) ?grow)
              case hx => rw [z1']; rfl
              case c1 => exact World.news_of_block (cs := #[.slice a2 (len (kid (shT r f) k)) k2]) (t := 41) (fr := (0, 0)) (heap_alloc_new w1' _)
              case c2 => intro u hu; simp at hu; subst hu; rfl
              case grow =>
                intro gg cap w2 hown2 hgrow hat hlt2
                rw [← hw1'] at hgrow
                rw [← z1'] at hat
                have KS := kids_step (out := w.heap.size + 2) (u := .slice (some ⟨gg, 0, none⟩) (k + 1) cap) (cap := cap) (k2 := k2) O.out hb2' hgrow hat (by omega) KI.out TT.out (by omega)
                have KS2 : Hid _ := KS
                have hob2 := grown_blk hgrow (owns_row O1.out) (by omega) hob1'
                have hrb2 := grown_blk hgrow (owns_row O1.out) (by omega) hrb1'
                have HX : Hid (Ex (w.alloc (.cells #[.int .i64 n, .slice (some ⟨b, o, none⟩) (len f) c] 25)) w2) := (hx.trans hb2').grown hgrow (owns_row O1.out) (by rw [World.size_alloc]; omega)
                have HO : Hid _ := hown2
                have p1 := cell_of_one hob2
                have p2 := free_of_one hob2
                clear KS hgrow hown2 q1 q2 q3 q4 q5
                go_wp2_with fail
                go_roundw
                case rel =>
                  refine ⟨k + 1, .slice (some ⟨gg, 0, none⟩) (k + 1) cap, cs ++ [.slice a2 (len (kid (shT r f) k)) k2], by omega, by go_num, HX.out.set ?_ _, ?_, one_setCell hob2, ownsRow_setCell_below HO.out ?_ _, KS2.out, fun j hj => ?_⟩
                  · rw [World.size_alloc]; show w.heap.size + 1 ≤ w.heap.size + 2; omega
                  · rw [Below.heap_setCell _ _ _ _ (by show w.heap.size + 1 ≠ w.heap.size + 2; omega)]; exact hrb2
                  · show w.heap.size + 2 < w.heap.size + 3; omega
                  · by_cases hj' : j < k
                    · exact AL.out j hj'
                    · rw [show j = k by omega, HS.out]; rfl
                case measure => simp [intOf]; omega
          · have hke : k = 2 := by have := H2.out; omega
            have V : Hid (sh (r + 1) f = some (shT r f)) := A1.out fun j hj => AL.out j (by omega)
            obtain ⟨hcl, ⟨hv, h0⟩ | ⟨g, cap, cur, hv, hg, hgc, _, _, _, htk⟩⟩ := O.out
            · omega
            · subst hv
              have TK : Hid _ := htk
              have HG : Hid _ := hgc
              have HK : Hid (k = 2) := hke
              clear htk hgc hke
              go_wp2_with fail
              have hres := World.cell?_setCell_same wr ⟨w.heap.size + 1, 0, none⟩ (.slice (some ⟨g, 0, none⟩) k cap) c3
              refine bodyPost_ret (v := .tuple #[.agg #[.slice (some ⟨g, 0, none⟩) k cap], .bool true]) (by simp [results, Tryd.results26, go_sem, hres]) rfl ⟨some ⟨g, 0, none⟩, k, cap, by rw [V.out]; rfl, fun u hu => ?_, hw.set (by show w.heap.size ≤ w.heap.size + 1; omega) _⟩
              rw [V.out] at hu
              cases hu
              refine ⟨HK.out, ?_⟩
              refine SA_mk (by omega) fun i hi => ?_
              have hi2 : i < 2 := hi
              obtain ⟨a', c', h1, h2⟩ := KI.out i (by have := HK.out; omega)
              refine ⟨a', c', ?_, ?_⟩
              · rw [World.cell?_setCell_other _ _ _ _ (fun e => absurd (congrArg Addr.block e) (by show w.heap.size + 1 ≠ g; omega))]
                have ht := TK.out
                rw [Nat.mul_one] at ht
                rw [← ht, List.getElem?_take_of_lt (by have := HK.out; omega)] at h1
                have hgg := HG.out
                simp [World.cell?, hgg] at h1 ⊢
                exact h1
              · exact SA_mono (SA_ks h2 fun b hb _ => Below.heap_setCell _ _ _ _ (by show b ≠ w.heap.size + 1; omega)) fun b _ hb => by omega
      · have e2 : ((len f : Int) != 2) = true := by simp; omega
        have n2 : ¬ (len f : Int) = 2 := by omega
        have V : Hid (sh (r + 1) f = none) := sh_bad hl h2
        clear hl h2
        go_enter Tryd.func26, Tryd.ntmps26
        go_wp2_with fail
        exact bodyPost_ret (v := .tuple #[.agg #[.slice none 0 0], .bool false]) (by simp [results, Tryd.results26, go_sem]) rfl (OfPost.none V.out (((Ex.new _ _).alloc _).alloc _))

end Go.Proofs.YtngheeeadekdmaaDoor
