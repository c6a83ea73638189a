/- Walks: a part of a type by a path. -/
import Derived.Test.YthdihpcpobhadaaDoorW3

import Derived.OneCell

namespace Go.Proofs.YthdihpcpobhadaaDoor

open Go.RowKit Go.Deep

/-- Numbers lie behind a slice's address, from block lo on. -/
def PA (w : World) (lo : Nat) (p : List Int) (a : Option Addr) : Prop := p.length = 0 ∨ ∃ b o, a = some ⟨b, o, none⟩ ∧ lo ≤ b ∧ ∀ i, i < p.length → w.cell? ⟨b, o + i, none⟩ = some (.int .i64 (p.getD i 0))

theorem PA_kp {w w' : World} {lo : Nat} {p : List Int} {a : Option Addr} (h : PA w lo p a) (hk : Kp lo w w') : PA w' lo p a := by
  rcases h with h | ⟨b, o, e, hb, hc⟩
  · exact Or.inl h
  · refine Or.inr ⟨b, o, e, hb, fun i hi => ?_⟩
    rw [hk.cell hb (World.block_lt_of_cell? _ _ (hc i hi))]; exact hc i hi
theorem PA_below {w w' : World} {lo : Nat} {p : List Int} {a : Option Addr} (h : PA w lo p a) (hb : Ex w w') : PA w' lo p a := PA_kp h (Kp.of_below hb lo)
theorem PA_lo {w : World} {lo lo' : Nat} {p : List Int} {a : Option Addr} (h : PA w lo p a) (hl : lo' ≤ lo) : PA w lo' p a := by
  rcases h with h | ⟨b, o, e, hb, hc⟩
  · exact Or.inl h
  · exact Or.inr ⟨b, o, e, Nat.le_trans hl hb, hc⟩
theorem PA_at {w : World} {lo : Nat} {p : List Int} {a : Option Addr} (h : PA w lo p a) (h0 : 0 < p.length) : ∃ b o, a = some ⟨b, o, none⟩ ∧ b < w.heap.size ∧ lo ≤ b ∧ ∀ i, i < p.length → w.cell? ⟨b, o + i, none⟩ = some (.int .i64 (p.getD i 0)) := by
  rcases h with h | ⟨b, o, e, hb, hc⟩
  · omega
  · exact ⟨b, o, e, World.block_lt_of_cell? _ _ (hc 0 h0), hb, hc⟩

theorem drop_cons (p : List Int) (k : Nat) (h : k < p.length) : p.drop k = p.getD k 0 :: p.drop (k + 1) := by
  rw [List.drop_eq_getElem_cons h]; simp [List.getD, h]

/-- The part by a path. -/
def partF : F → List Int → Option F
  | f, [] => some f
  | f, i :: p => if 0 ≤ i ∧ i < len f then partF (kid f i.toNat) p else none

theorem typeKids_any (a : Option Addr) (n cap : Nat) (w : World) :
    Calls Tryd.prog 45 #[.agg #[.slice a n cap]] w fun e w' => e = .returned (.slice a n cap) ∧ Ex w w' := by
  go_enter Tryd.func45, Tryd.ntmps45
  go_wp2_with fail
  go_ret
  exact ⟨rfl, Ex.new _ _⟩

set_option maxHeartbeats 1000000 in
theorem partAtT_any (f : F) (p : List Int) (a : Option Addr) (cap : Nat) (pa : Option Addr) (pc : Nat) (lo : Nat) (w : World) (hp : p.length ≤ 1000000000) (hT : TA w lo f a) (hP : PA w 0 p pa) :
    Calls Tryd.prog 44 #[.agg #[.slice a (len f) cap], .slice pa p.length pc, .func (.func 45) #[] #[]] w fun e w' =>
      (∃ g a' cap', partF f p = some g ∧ e = .returned (.tuple #[.agg #[.slice a' (len g) cap'], .bool true]) ∧ TA w' lo g a' ∧ Ex w w') ∨ (partF f p = none ∧ e = .returned (.tuple #[.agg #[.slice none 0 0], .bool false]) ∧ Ex w w') := by
  have T : Hid (TA w lo f a) := hT
  have P : Hid (PA w 0 p pa) := hP
  clear hT hP
  go_enter Tryd.func44, Tryd.ntmps44
  go_wp2_with fail
  go_loopw [14] (fun i wr => ∃ (k : Nat) (g : F) (a' : Option Addr) (cap' : Nat), k ≤ p.length ∧ i = .int .i64 k ∧ partF g (p.drop k) = partF f p ∧ TA w lo g a' ∧ Ex w wr ∧ wr.heap[w.heap.size]? = some (.cells #[.slice a' (len g) cap'] 32 (0, 0)) ∧ wr.heap[w.heap.size + 1]? = some (.cells #[.slice none 0 0] 32 (0, 0))) (fun i _ => p.length - (intOf i).toNat)
  case atStart => exact ⟨0, f, a, cap, Nat.zero_le _, rfl, rfl, T.out, (Ex.new _ _).alloc _, by rw [Below.heap_alloc _ _ _ (by simp)]; exact heap_alloc_new _ _, by rw [← World.size_alloc w (.cells #[.slice a (len f) cap] 32)]; exact heap_alloc_new _ _⟩
  case round =>
    obtain ⟨k, g, a', cap', hk, rfl, hpg, hg, hx, hbx, hrs⟩ := hrel
    have PG : Hid (partF g (p.drop k) = partF f p) := hpg
    have TG : Hid (TA w lo g a') := hg
    have c1 := cell_of_one hbx
    have c2 := free_of_one hbx
    have c3 := cell_of_one hrs
    have c4 := free_of_one hrs
    clear hpg hg
    by_cases hlt : k < p.length
    · obtain ⟨pb, po, rfl, hpb, _, hpc⟩ := PA_at (PA_below P.out hx) (by omega)
      obtain ⟨x, hxe⟩ : ∃ x, x = p.getD k 0 := ⟨_, rfl⟩
      have hck := hpc k hlt
      rw [← hxe] at hck
      have hpd : partF f p = if 0 ≤ x ∧ x < len g then partF (kid g x.toNat) (p.drop (k + 1)) else none := by
        rw [← PG.out, drop_cons p k hlt, ← hxe]; rfl
      have PD : Hid _ := hpd
      clear hpc hxe hpd
      go_wp2_with fail
      refine (typeKids_any _ _ _ _).mono ?_
      rintro e w1 ⟨rfl, hb1⟩
      have hbx1 := hb1.blk hbx
      have hrs1 := hb1.blk hrs
      have d1 := cell_of_one hbx1
      have d2 := free_of_one hbx1
      have d3 := cell_of_one hrs1
      have d4 := free_of_one hrs1
      have d5 := lt_of_block hrs1
      have hx1 : Ex w w1 := hx.trans hb1
      clear c1 c2 c3 c4 hbx hrs
      by_cases hxx : 0 ≤ x ∧ x < len g
      · obtain ⟨hx0, hxl⟩ := hxx
        have e0 : decide (x < 0) = false := by simp; omega
        obtain ⟨b, o, rfl, hlo, hbs, hkk⟩ := TA_at (TA_below TG.out hx1) (by omega)
        obtain ⟨a2, k2, hc2, ht2⟩ := hkk x.toNat (by omega)
        obtain ⟨b', o', e', _, _, hkk'⟩ := TA_at TG.out (by omega)
        obtain ⟨a3, k3, hc3, ht3⟩ := hkk' x.toNat (by omega)
        cases e'
        have e4 := (hx1.at hc3).symm.trans hc2
        injection e4 with e4
        injection e4 with e5 e6 e7
        subst e5 e7
        have T3 : Hid (TA w lo (kid g x.toNat) a3) := ht3
        clear hkk hkk' ht2 ht3 hc3 e6
        go_wp2_with fail
        go_roundw
        case rel =>
          exact ⟨k + 1, kid g x.toNat, a3, k3, by omega, by go_num, by rw [PD.out, if_pos ⟨hx0, hxl⟩], T3.out, hx1.set (Nat.le_refl _) _, one_setCell hbx1, by rw [Below.heap_setCell _ _ _ _ (by simp)]; exact hrs1⟩
        case measure => simp [intOf]; omega
      · have HN : Hid (partF f p = none) := by show _ = _; rw [PD.out, if_neg hxx]
        by_cases hx0 : x < 0
        · have e0 : decide (x < 0) = true := by simp; omega
          go_wp2_with fail
          have hres := res_at d3 (.slice none 0 0) (.cells #[.slice none 0 0] 32)
          exact bodyPost_ret (v := .tuple #[.agg #[.slice none 0 0], .bool false]) (by simp [results, Tryd.results44, go_sem, hres]) rfl (Or.inr ⟨HN.out, rfl, (hx1.set (Nat.le_succ _) _).alloc _⟩)
        · have e0 : decide (x < 0) = false := by simp; omega
          have e1 : (len g : Int) ≤ x := by omega
          go_wp2_with fail
          have hres := res_at d3 (.slice none 0 0) (.cells #[.slice none 0 0] 32)
          exact bodyPost_ret (v := .tuple #[.agg #[.slice none 0 0], .bool false]) (by simp [results, Tryd.results44, go_sem, hres]) rfl (Or.inr ⟨HN.out, rfl, (hx1.set (Nat.le_succ _) _).alloc _⟩)
    · have hd : p.drop k = [] := List.drop_eq_nil_of_le (by omega)
      have hs : partF f p = some g := by rw [← PG.out, hd]; rfl
      have HS : Hid (partF f p = some g) := hs
      clear hs hd
      go_wp2_with fail
      have hres := World.cell?_setCell_same wr ⟨w.heap.size + 1, 0, none⟩ (.slice a' (len g) cap') c3
      have hxf : Ex w (wr.setCell ⟨w.heap.size + 1, 0, none⟩ (.slice a' (len g) cap')) := hx.set (Nat.le_succ _) _
      exact bodyPost_ret (v := .tuple #[.agg #[.slice a' (len g) cap'], .bool true]) (by simp [results, Tryd.results44, go_sem, hres]) rfl (Or.inl ⟨g, a', cap', HS.out, rfl, TA_below TG.out hxf, hxf⟩)

theorem fits_part : ∀ (p : List Int) (r : Nat) (f g : F), fits r f = true → partF f p = some g → ∃ r', fits r' g = true
  | [], r, f, g, h, e => by cases e; exact ⟨r, h⟩
  | i :: p, r, f, g, h, e => by
    simp only [partF] at e
    split at e
    · rename_i hi
      cases r with
      | zero => simp [fits] at h
      | succ r =>
        have h2 : len f = 2 := by have := fits_len h; omega
        rw [fits_two h2, Bool.and_eq_true] at h
        have : i.toNat = 0 ∨ i.toNat = 1 := by omega
        rcases this with hi | hi <;> rw [hi] at e
        · exact fits_part p r _ g h.1 e
        · exact fits_part p r _ g h.2 e
    · cases e

theorem partAtT_one (f : F) (p : List Int) (a : Option Addr) (cap : Nat) (pa : Option Addr) (pc : Nat) (lo : Nat) (w : World) (hp : p.length ≤ 1000000000) (hT : TA w lo f a) (hP : PA w 0 p pa) :
    Calls Tryd.prog 44 #[.agg #[.slice a (len f) cap], .slice pa p.length pc, .func (.func 45) #[] #[]] w fun e w' =>
      ∃ (g : F) (ok : Bool) (a' : Option Addr) (cap' : Nat), (partF f p = some g ∧ ok = true ∨ partF f p = none ∧ g = .nil ∧ ok = false) ∧ e = .returned (.tuple #[.agg #[.slice a' (len g) cap'], .bool ok]) ∧ TA w' lo g a' ∧ Ex w w' :=
  (partAtT_any f p a cap pa pc lo w hp hT hP).mono fun e w' h => by
    rcases h with ⟨g, a', cap', h1, h2, h3, h4⟩ | ⟨h1, h2, h3⟩
    · exact ⟨g, true, a', cap', Or.inl ⟨h1, rfl⟩, h2, h3, h4⟩
    · exact ⟨.nil, false, none, 0, Or.inr ⟨h1, rfl, rfl⟩, h2, Or.inl rfl, h3⟩

/-- What TypeAt tells. -/
def typeAtR (f : F) (p : List Int) : F × Bool := match (if fits 4 f = true then partF f p else none) with
  | some g => (g, true)
  | none => (.nil, false)

set_option maxHeartbeats 1000000 in
theorem iTypeAt_any (f : F) (p : List Int) (a : Option Addr) (cap : Nat) (pa : Option Addr) (pc : Nat) (lo : Nat) (w : World) (hp : p.length ≤ 1000000000) (hT : TA w lo f a) (hP : PA w 0 p pa) :
    Calls Tryd.prog 12 #[.agg #[.slice a (len f) cap], .slice pa p.length pc] w fun e w' =>
      ∃ a' cap', e = .returned (.tuple #[.agg #[.slice a' (len (typeAtR f p).1) cap'], .bool (typeAtR f p).2]) ∧ TA w' w.heap.size (typeAtR f p).1 a' ∧ Ex w w' := by
  have T : Hid (TA w lo f a) := hT
  have P : Hid (PA w 0 p pa) := hP
  clear hT hP
  go_enter Tryd.func12, Tryd.ntmps12
  go_wp2_with fail
  refine (iTypeOk_any _ _ _ _ _ (TA_below T.out ((Ex.new _ _).alloc _))).mono ?_
  rintro e w1 ⟨rfl, hb1⟩
  have hx1 : Ex w w1 := ((Ex.new _ _).alloc _).trans hb1
  have hbx : w1.cell? ⟨w.heap.size, 0, none⟩ = some (.slice a (len f) cap) := Ex.at hb1 (by simp)
  have hrs : w1.heap[w.heap.size + 1]? = some (.cells #[.slice none 0 0] 32 (0, 0)) := hb1.blk (by rw [← World.size_alloc w (.cells #[.slice a (len f) cap] 32)]; exact heap_alloc_new _ _)
  have d3 := cell_of_one hrs
  have d4 := free_of_one hrs
  have d5 := lt_of_block hrs
  cases hf : fits 4 f
  · have HR : Hid (typeAtR f p = (.nil, false)) := by simp [Hid, typeAtR, hf]
    go_wp2_with fail
    have hres := World.cell?_setCell_same w1 ⟨w.heap.size + 1, 0, none⟩ (.slice none 0 0) d3
    refine bodyPost_ret (v := .tuple #[.agg #[.slice none 0 0], .bool false]) (by simp [results, Tryd.results12, go_sem, hres]) rfl ?_
    rw [HR.out]
    exact ⟨none, 0, rfl, Or.inl rfl, hx1.set (Nat.le_succ _) _⟩
  · have HF : Hid (fits 4 f = true) := hf
    clear hf
    go_wp2_with fail
    refine (partAtT_one _ _ _ _ _ _ _ _ hp (TA_below T.out hx1) (PA_below P.out hx1)).mono ?_
    rintro e w2 ⟨g, ok, a2, k2, hg, rfl, ht2, hb2⟩
    have HR : Hid (typeAtR f p = (g, ok)) := by
      rcases hg with ⟨h1, h2⟩ | ⟨h1, h2, h3⟩
      · simp [Hid, typeAtR, HF.out, h1, h2]
      · simp [Hid, typeAtR, HF.out, h1, h2, h3]
    obtain ⟨r', hr'⟩ : ∃ r', fits r' g = true := by
      rcases hg with ⟨h1, h2⟩ | ⟨h1, h2, h3⟩
      · exact fits_part _ _ _ _ HF.out h1
      · subst h2; exact ⟨1, rfl⟩
    have R' : Hid (fits r' g = true) := hr'
    have T2 : Hid (TA w2 lo g a2) := ht2
    have hrs2 := hb2.blk hrs
    have hx2 := hx1.trans hb2
    clear hg hr' ht2 d3 d4 d5 hrs hbx
    have d3 := cell_of_one hrs2
    have d4 := free_of_one hrs2
    have d5 := lt_of_block hrs2
    go_wp2_with fail
    refine (typeCopy_any r' g a2 k2 lo _ R'.out (TA_below T2.out ?_)).mono ?_
    · exact Ex.new _ _
    rintro e w3 ⟨a3, k3, rfl, ht3, hb3⟩
    have hrs3 := hb3.blk ((Ex.new _ _).blk hrs2)
    have f3 := cell_of_one hrs3
    have f4 := free_of_one hrs3
    have f5 := lt_of_block hrs3
    have hx3 : Ex w w3 := hx2.trans ((Ex.new _ _).trans hb3)
    have T3 : Hid _ := ht3
    clear ht3
    go_wp2_with fail
    have hres := World.cell?_setCell_same w3 ⟨w.heap.size + 1, 0, none⟩ (.slice a3 (len g) k3) f3
    refine bodyPost_ret (v := .tuple #[.agg #[.slice a3 (len g) k3], .bool ok]) (by simp [results, Tryd.results12, go_sem, hres]) rfl ?_
    rw [HR.out]
    refine ⟨a3, k3, rfl, TA_lo (TA_kp T3.out ((Kp.refl _ _).set (Or.inl ?_) _)) ?_, hx3.set (Nat.le_succ _) _⟩
    · rw [World.size_alloc]; show w.heap.size + 1 < _; omega
    · rw [World.size_alloc]; omega

end Go.Proofs.YthdihpcpobhadaaDoor
