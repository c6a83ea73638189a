/- Walks: another part put into a value, by the program. -/
import Derived.Test.YtomnekiiccbioaaV14
namespace Go.Proofs.Ytomnekiiccbioaa
open Go.RowKit Go.Deep
attribute [local go_sem ↓] Go.wp_at_zero Go.wp_at_succ

/-- The part that can be put there: what is there is of one ok type with it. -/
def putOk (n : Int) (f : F) (p : List Int) (m : Int) (g : F) : Bool := match (vType 4 n f).bind fun u => partF u p with
  | some v => valOk v m g
  | none => false
/-- What ValPut tells. -/
def valPutR (n : Int) (f : F) (p : List Int) (m : Int) (g : F) : (Int × F) × Bool := if putOk n f p m g = true then (putV p n f m g, true) else ((0, .nil), false)

def PutPost (R : (Int × F) × Bool) (w : World) (e : Ending) (w' : World) : Prop := ∃ a' c', e = .returned (.tuple #[.agg #[.int .i64 R.1.1, .slice a' (len R.1.2) c'], .bool R.2]) ∧ VO 8 w' (fun b => w.heap.size ≤ b) R.1.2 a' ∧ Ex w w'
theorem PutPost.no {R : (Int × F) × Bool} {w w' : World} (h : R = ((0, .nil), false)) (hx : Ex w w') : PutPost R w (.returned (.tuple #[.agg #[.int .i64 0, .slice none 0 0], .bool false])) w' := by
  subst h
  exact ⟨none, 0, rfl, Or.inl rfl, hx⟩

set_option maxRecDepth 100000 in
set_option maxHeartbeats 4000000 in
theorem iValPut_any (n : Int) (f : F) (p : List Int) (m : Int) (g : F) (a ag pa : Option Addr) (cap cg pc lo lo' : Nat) (w : World) (hp : p.length ≤ 1000000000) (hpc : p.length ≤ pc) (hpm : pc ≤ 9223372036854775807) (hT : VA w lo f a) (hG : VA w lo' g ag) (hP : PA w 0 p pa) :
    Calls Try.prog 40 #[.agg #[.int .i64 n, .slice a (len f) cap], .slice pa p.length pc, .agg #[.int .i64 m, .slice ag (len g) cg]] w (PutPost (valPutR n f p m g) w) := by
  have IV : Hid (∀ w', Ex w w' → Calls Try.prog 69 #[.agg #[.int .i64 n, .slice a (len f) cap]] w' fun e w'' => ∃ a' c', e = .returned (.tuple #[.agg #[.slice a' (len ((vType 4 n f).getD .nil)) c'], .bool (vType 4 n f).isSome]) ∧ TA w'' w'.heap.size ((vType 4 n f).getD .nil) a' ∧ Ex w' w'') := fun w' h => valType_any n f a cap lo w' (VA_below hT h)
  have IP : Hid (∀ (u : F) (w' : World) (a' : Option Addr) (c' l : Nat), Ex w w' → TA w' l u a' → Calls Try.prog 59 #[.agg #[.slice a' (len u) c'], .slice pa p.length pc, .func (.func 60) #[] #[]] w' fun e w'' =>
      ∃ (g : F) (ok : Bool) (a' : Option Addr) (cap' : Nat), (partF u p = some g ∧ ok = true ∨ partF u p = none ∧ g = .nil ∧ ok = false) ∧ e = .returned (.tuple #[.agg #[.slice a' (len g) cap'], .bool ok]) ∧ TA w'' l g a' ∧ Ex w' w'') := fun u w' a' c' l h h' => partAtT_one u p a' c' pa pc l w' hp h' (PA_below hP h)
  have IO : Hid (∀ (v : F) (w' : World) (a' : Option Addr) (c' l : Nat), Ex w w' → TA w' l v a' → Calls Try.prog 32 #[.agg #[.slice a' (len v) c'], .agg #[.int .i64 m, .slice ag (len g) cg]] w' fun e w'' => e = .returned (.bool (valOk v m g)) ∧ Ex w' w'') := fun v w' a' c' l h h' => iValOk_any v m g ag a' cg c' _ _ w' (VA_below hG h) h'
  have IW : Hid (∀ (u v : F) (w' : World), vType 4 n f = some u → partF u p = some v → valOk v m g = true → Ex w w' → Calls Try.prog 80 #[.agg #[.int .i64 n, .slice a (len f) cap], .slice pa p.length pc, .agg #[.int .i64 m, .slice ag (len g) cg]] w' (CpPost 8 (putV p n f m g).1 (putV p n f m g).2 w')) := fun u v w' h1 h2 h3 h => by
    cases ht : vType 4 m g with
    | none => simp [valOk, ht, ofType] at h3
    | some t => exact valWithO_any p 4 4 n f u v m g t a ag pa cap cg pc lo lo' w' hp hpc hpm h1 h2 ht (VA_below hT h) (VA_below hG h) (PA_below hP h)
  have HR : Hid (valPutR n f p m g = if putOk n f p m g = true then (putV p n f m g, true) else ((0, .nil), false)) := rfl
  have HO : Hid (putOk n f p m g = match (vType 4 n f).bind fun u => partF u p with | some v => valOk v m g | none => false) := rfl
  clear hT hG hP
  obtain ⟨R, hR⟩ : ∃ R, R = valPutR n f p m g := ⟨_, rfl⟩
  rw [← hR] at HR ⊢
  clear hR
  have FI : Hid (∀ W0 W, W0.heap[w.heap.size + 2]? = some (.cells #[.int .i64 0, .slice none 0 0] 39 (0, 0)) → Ex w W0 → W = (W0.setCell ⟨w.heap.size + 1 + 1, 0, none⟩ (.int .i64 0)).setCell ⟨w.heap.size + 1 + 1, 1, none⟩ (.slice none 0 0) → W.heap[w.heap.size + 2]? = some (.cells #[.int .i64 0, .slice none 0 0] 39 (0, 0)) ∧ Ex w W) := fun W0 W h1 h2 h3 => by
    subst h3
    exact ⟨two_set (u' := .int .i64 0) (v' := .slice none 0 0) h1, (h2.set (by show w.heap.size ≤ w.heap.size + 2; omega) _).set (by show w.heap.size ≤ w.heap.size + 2; omega) _⟩
  go_enter Try.func40, Try.ntmps40
  go_wp2_with fail
  refine (IV.out _ (((Ex.new _ _).alloc _).alloc _)).mono ?_
  rintro e w1 ⟨a1, c1, rfl, ht1, hb1⟩
  have x1 : Ex w w1 := (((Ex.new _ _).alloc _).alloc _).trans hb1
  have rb : w1.heap[w.heap.size + 2]? = some (.cells #[.int .i64 0, .slice none 0 0] 39 (0, 0)) := hb1.blk (heap_alloc_at _ _ (by simp))
  have q0 : w1.cell? ⟨w.heap.size, 0, none⟩ = some (.int .i64 n) := hb1.at (((Ex.new _ _).alloc _).at (World.cell?_alloc_new _ _ _ _))
  have q1 : w1.cell? ⟨w.heap.size, 1, none⟩ = some (.slice a (len f) cap) := hb1.at (((Ex.new _ _).alloc _).at (World.cell?_alloc_new _ _ _ _))
  have q2 : w1.cell? ⟨w.heap.size + 1, 0, none⟩ = some (.int .i64 m) := hb1.at ((Ex.new _ _).at (by simp))
  have q3 : w1.cell? ⟨w.heap.size + 1, 1, none⟩ = some (.slice ag (len g) cg) := hb1.at ((Ex.new _ _).at (by simp))
  have d0 : w1.cell? ⟨w.heap.size + 1 + 1, 0, none⟩ = some (.int .i64 0) := two_cell0 rb
  have d1 : w1.cell? ⟨w.heap.size + 1 + 1, 1, none⟩ = some (.slice none 0 0) := two_cell1 rb
  have d2 : w1.frozen? ⟨w.heap.size + 1 + 1, 0, none⟩ = false := two_free rb
  have d3 : w1.frozen? ⟨w.heap.size + 1 + 1, 1, none⟩ = false := two_free rb
  have z2 : w.heap.size + 1 + 1 < w1.heap.size := lt_of_block rb
  have z1 : w.heap.size + 1 < w1.heap.size := by omega
  have z0 : w.heap.size < w1.heap.size := by omega
  cases hv : vType 4 n f with
  | none =>
    have HN : Hid (R = ((0, .nil), false)) := by show _ = _; rw [HR.out, HO.out, hv]; rfl
    rw [hv] at ht1
    simp only [Option.getD_none, Option.isSome_none, len] at *
    clear ht1 hv
    go_wp2_with fail
    obtain ⟨hb, hxf⟩ := FI.out w1 _ rb x1 rfl
    have hb' := (Ex.new _ (.cells #[.slice a1 0 c1] 25)).blk hb
    have hr0 := two_cell0 hb'
    have hr1 := two_cell1 hb'
    refine bodyPost_ret (v := .tuple #[.agg #[.int .i64 0, .slice none 0 0], .bool false]) (by simp [results, Try.results40, go_sem, hr0, hr1]) rfl ?_
    exact PutPost.no HN.out (hxf.alloc _)
  | some u =>
    have HV : Hid (vType 4 n f = some u) := hv
    rw [hv] at ht1
    simp only [Option.getD_some, Option.isSome_some] at *
    have T1 : Hid _ := ht1
    clear ht1 hv
    go_wp2_with fail
    refine (IP.out u _ a1 c1 _ (x1.alloc _) (TA_below T1.out (Ex.new _ _))).mono ?_
    rintro e w2 ⟨v, ok, a2, c2, hpart, rfl, ht2, hb2⟩
    have x2 : Ex w w2 := (x1.alloc _).trans hb2
    have xx : Ex w1 w2 := (Ex.new _ _).trans hb2
    have rb2 := xx.blk rb
    have T2 : Hid _ := ht2
    replace q0 := xx.at q0
    replace q1 := xx.at q1
    replace q2 := xx.at q2
    replace q3 := xx.at q3
    replace d0 : w2.cell? ⟨w.heap.size + 1 + 1, 0, none⟩ = some (.int .i64 0) := two_cell0 rb2
    replace d1 : w2.cell? ⟨w.heap.size + 1 + 1, 1, none⟩ = some (.slice none 0 0) := two_cell1 rb2
    replace d2 : w2.frozen? ⟨w.heap.size + 1 + 1, 0, none⟩ = false := two_free rb2
    replace d3 : w2.frozen? ⟨w.heap.size + 1 + 1, 1, none⟩ = false := two_free rb2
    have y2 : w.heap.size + 1 + 1 < w2.heap.size := lt_of_block rb2
    have y1 : w.heap.size + 1 < w2.heap.size := by omega
    have y0 : w.heap.size < w2.heap.size := by omega
    have y3 : w1.heap.size < w2.heap.size := by have := hb2.size; rw [World.size_alloc] at this; omega
    clear ht2
    rcases hpart with ⟨hpv, rfl⟩ | ⟨hpv, rfl, rfl⟩
    · have HP : Hid (partF u p = some v) := hpv
      have HO2 : Hid (putOk n f p m g = valOk v m g) := by show _ = _; rw [HO.out, HV.out]; simp [hpv]
      clear hpv
      go_wp2_with fail
      refine (IO.out v _ a2 c2 _ (x2.alloc _) (TA_below T2.out (Ex.new _ _))).mono ?_
      rintro e w3 ⟨rfl, hb3⟩
      have x3 : Ex w w3 := (x2.alloc _).trans hb3
      have xy : Ex w2 w3 := (Ex.new _ _).trans hb3
      have rb3 := xy.blk rb2
      replace q0 := xy.at q0
      replace q1 := xy.at q1
      replace q2 := xy.at q2
      replace q3 := xy.at q3
      replace d0 : w3.cell? ⟨w.heap.size + 1 + 1, 0, none⟩ = some (.int .i64 0) := two_cell0 rb3
      replace d1 : w3.cell? ⟨w.heap.size + 1 + 1, 1, none⟩ = some (.slice none 0 0) := two_cell1 rb3
      replace d2 : w3.frozen? ⟨w.heap.size + 1 + 1, 0, none⟩ = false := two_free rb3
      replace d3 : w3.frozen? ⟨w.heap.size + 1 + 1, 1, none⟩ = false := two_free rb3
      cases hk : valOk v m g
      · have HN : Hid (R = ((0, .nil), false)) := by show _ = _; rw [HR.out, HO2.out, hk]; rfl
        clear hk
        go_wp2_with fail
        obtain ⟨hb, hxf⟩ := FI.out w3 _ rb3 x3 rfl
        have hr0 := two_cell0 hb
        have hr1 := two_cell1 hb
        refine bodyPost_ret (v := .tuple #[.agg #[.int .i64 0, .slice none 0 0], .bool false]) (by simp [results, Try.results40, go_sem, hr0, hr1]) rfl ?_
        exact PutPost.no HN.out hxf
      · have HN : Hid (R = (putV p n f m g, true)) := by show _ = _; rw [HR.out, HO2.out, hk]; rfl
        have IX : Hid (Calls Try.prog 80 #[.agg #[.int .i64 n, .slice a (len f) cap], .slice pa p.length pc, .agg #[.int .i64 m, .slice ag (len g) cg]] w3 (CpPost 8 (putV p n f m g).1 (putV p n f m g).2 w3)) := IW.out u v w3 HV.out HP.out hk x3
        generalize putV p n f m g = pv at *
        obtain ⟨pn, pf⟩ := pv
        clear hk IW
        go_wp2_with fail
        refine Calls.mono IX.out ?_
        rintro e w4 ⟨a4, c4, rfl, ht4, hb4⟩
        have x4 : Ex w w4 := x3.trans hb4
        have rb4 := hb4.blk rb3
        have zz : w.heap.size + 2 < w3.heap.size := lt_of_block rb3
        have T4 : Hid (VO 8 w4 (fun b => w3.heap.size ≤ b) pf a4) := ht4
        clear ht4
        replace d0 : w4.cell? ⟨w.heap.size + 1 + 1, 0, none⟩ = some (.int .i64 0) := two_cell0 rb4
        replace d1 : w4.cell? ⟨w.heap.size + 1 + 1, 1, none⟩ = some (.slice none 0 0) := two_cell1 rb4
        replace d2 : w4.frozen? ⟨w.heap.size + 1 + 1, 0, none⟩ = false := two_free rb4
        replace d3 : w4.frozen? ⟨w.heap.size + 1 + 1, 1, none⟩ = false := two_free rb4
        go_wp2_with fail
        have hb5 := two_set (u' := .int .i64 pn) (v' := .slice a4 (len pf) c4) rb4
        have hr0 := two_cell0 hb5
        have hr1 := two_cell1 hb5
        refine bodyPost_ret (v := .tuple #[.agg #[.int .i64 pn, .slice a4 (len pf) c4], .bool true]) (by simp [results, Try.results40, go_sem, hr0, hr1]) rfl ?_
        rw [HN.out]
        refine ⟨a4, c4, rfl, VO.mono (VO.ks T4.out fun b hb _ => ?_) fun b _ hb => ?_, (x4.set (by show w.heap.size ≤ w.heap.size + 2; omega) _).set (by show w.heap.size ≤ w.heap.size + 2; omega) _⟩
        · have : w3.heap.size ≤ b := hb
          rw [Below.heap_setCell _ _ _ _ (by show b ≠ w.heap.size + 2; omega), Below.heap_setCell _ _ _ _ (by show b ≠ w.heap.size + 2; omega)]
        · have : w3.heap.size ≤ b := hb
          show w.heap.size ≤ b; omega
    · have HN : Hid (R = ((0, .nil), false)) := by show _ = _; rw [HR.out, HO.out, HV.out]; simp [hpv]
      clear hpv
      simp only [len] at *
      go_wp2_with fail
      obtain ⟨hb, hxf⟩ := FI.out w2 _ rb2 x2 rfl
      have hb' := (Ex.new _ (.cells #[.slice a2 0 c2] 25)).blk hb
      have hr0 := two_cell0 hb'
      have hr1 := two_cell1 hb'
      refine bodyPost_ret (v := .tuple #[.agg #[.int .i64 0, .slice none 0 0], .bool false]) (by simp [results, Try.results40, go_sem, hr0, hr1]) rfl ?_
      exact PutPost.no HN.out (hxf.alloc _)

end Go.Proofs.Ytomnekiiccbioaa
