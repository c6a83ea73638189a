/- Walks: another part put into a value, by the specification: the same. -/
import Derived.Test.YtomnekiiccbioaaV16
namespace Go.Proofs.Ytomnekiiccbioaa
open Go.RowKit Go.Deep
attribute [local go_sem ↓] Go.wp_at_zero Go.wp_at_succ

theorem put_no {n : Int} {f : F} {p : List Int} {m : Int} {g : F} (h : (valAtR n f p).2 = false) : putOk n f p m g = false := by
  unfold putOk
  cases hf : vType 4 n f with
  | none => rfl
  | some u =>
    cases hp : partV n f p with
    | none => simp [(partV_type p 4 n f u hf).2 hp]
    | some mg => obtain ⟨m0, g0⟩ := mg; rw [valAt_of hf hp] at h; cases h

theorem put_yes {n : Int} {f : F} {p : List Int} {m : Int} {g u v : F} (hu : vType 4 n f = some u) (hv : partF u p = some v) : putOk n f p m g = valOk v m g := by
  unfold putOk; rw [hu]; simp [hv]

theorem valOk_eq {v g t : F} {m m0 : Int} {g0 : F} (hv : vType 4 m0 g0 = some v) (ht : vType 4 m g = some t) : valOk v m g = eqT v t := by
  simp [valOk, vType_fits 4 m0 g0 v hv, ht, ofType]

def SPutPost (R : (Int × F) × Bool) (w : World) (e : Ending) (w' : World) : Prop := ∃ a' c', e = .returned (.tuple #[.agg #[.int .i64 R.1.1, .slice a' (len R.1.2) c'], .bool R.2]) ∧ VA w' w.heap.size R.1.2 a' ∧ Ex w w'
theorem SPutPost.no {R : (Int × F) × Bool} {w w' : World} (h : R = ((0, .nil), false)) (hx : Ex w w') : SPutPost R w (.returned (.tuple #[.agg #[.int .i64 0, .slice none 0 0], .bool false])) w' := by
  subst h
  exact ⟨none, 0, rfl, Or.inl rfl, hx⟩

set_option maxRecDepth 100000 in
set_option maxHeartbeats 4000000 in
theorem sValPut_any (n : Int) (f : F) (p : List Int) (m : Int) (g : F) (a ag pa : Option Addr) (cap cg pc lo lo' : Nat) (w : World) (hp : p.length ≤ 1000000000) (hpc : p.length ≤ pc) (hpm : pc ≤ 9223372036854775807) (hl : len f ≤ 1000000000) (hs : Sm f) (hgl : len g ≤ 1000000000) (hgs : Sm g) (hT : VA w lo f a) (hG : VA w lo' g ag) (hP : PA w 0 p pa) :
    Calls Try.prog 39 #[.agg #[.int .i64 n, .slice a (len f) cap], .slice pa p.length pc, .agg #[.int .i64 m, .slice ag (len g) cg]] w (SPutPost (valPutR n f p m g) w) := by
  have IV : Hid (∀ w', Ex w w' → Calls Try.prog 36 #[.agg #[.int .i64 n, .slice a (len f) cap], .slice pa p.length pc] w' (VAtPost n f p w')) := fun w' h => sValAt_any n f p a cap pa pc lo w' hp hl hs (VA_below hT h) (PA_below hP h)
  have IA : Hid (∀ w', Ex w w' → Calls Try.prog 75 #[.agg #[.int .i64 m, .slice ag (len g) cg]] w' fun e w'' => e = .returned (.bool (vType 4 m g).isSome) ∧ Ex w' w'') := fun w' h => l1Any_any m g ag cg lo' w' hgl hgs (VA_below hG h)
  have IO : Hid (∀ w', Ex w w' → Calls Try.prog 77 #[.agg #[.int .i64 m, .slice ag (len g) cg], .int .i64 4] w' (OfPost 4 g w')) := fun w' h => l1Of_any 4 4 m g ag cg lo' w' rfl (by omega) (VA_below hG h)
  have IW : Hid (∀ (u v : F) (w' : World), vType 4 n f = some u → partF u p = some v → Ex w w' → Calls Try.prog 79 #[.agg #[.int .i64 n, .slice a (len f) cap], .slice pa p.length pc, .agg #[.int .i64 m, .slice ag (len g) cg]] w' (PuPost (putV p n f m g).1 (putV p n f m g).2 w')) := fun u v w' h1 h2 h => l1Put_any p 4 n f u v m g a ag pa cap cg pc lo lo' w' hp hpc hpm h1 h2 hgl hgs (VA_below hT h) (VA_below hG h) (PA_below hP h)
  have HR : Hid (valPutR n f p m g = if putOk n f p m g = true then (putV p n f m g, true) else ((0, .nil), false)) := rfl
  have N0 : Hid ((valAtR n f p).2 = false → putOk n f p m g = false) := put_no
  have Y0 : Hid ((valAtR n f p).2 = true → ∃ u m0 g0 v, vType 4 n f = some u ∧ vType 4 m0 g0 = some v ∧ partF u p = some v ∧ valAtR n f p = ((m0, g0), true)) := fun h => by
    obtain ⟨u, m0, g0, v, h1, _, h3, h4, h5⟩ := valAt_ok h
    exact ⟨u, m0, g0, v, h1, h3, h4, h5⟩
  clear hT hG hP hs hgs
  obtain ⟨R, hR⟩ : ∃ R, R = valPutR n f p m g := ⟨_, rfl⟩
  rw [← hR] at HR ⊢
  clear hR
  have FI : Hid (∀ W0 W, W0.heap[w.heap.size + 2]? = some (.cells #[.int .i64 0, .slice none 0 0] 39 (0, 0)) → Ex w W0 → W = (W0.setCell ⟨w.heap.size + 1 + 1, 0, none⟩ (.int .i64 0)).setCell ⟨w.heap.size + 1 + 1, 1, none⟩ (.slice none 0 0) → W.heap[w.heap.size + 2]? = some (.cells #[.int .i64 0, .slice none 0 0] 39 (0, 0)) ∧ Ex w W) := fun W0 W h1 h2 h3 => by
    subst h3
    exact ⟨two_set (u' := .int .i64 0) (v' := .slice none 0 0) h1, (h2.set (by show w.heap.size ≤ w.heap.size + 2; omega) _).set (by show w.heap.size ≤ w.heap.size + 2; omega) _⟩
  have DF : Hid (∀ W0 : World, W0.heap[w.heap.size + 2]? = some (.cells #[.int .i64 0, .slice none 0 0] 39 (0, 0)) → (W0.cell? ⟨w.heap.size + 1 + 1, 0, none⟩ = some (.int .i64 0) ∧ W0.cell? ⟨w.heap.size + 1 + 1, 1, none⟩ = some (.slice none 0 0) ∧ W0.frozen? ⟨w.heap.size + 1 + 1, 0, none⟩ = false ∧ W0.frozen? ⟨w.heap.size + 1 + 1, 1, none⟩ = false) ∧ w.heap.size + 1 + 1 < W0.heap.size ∧ w.heap.size + 1 < W0.heap.size ∧ w.heap.size < W0.heap.size) := fun W0 h => ⟨⟨two_cell0 h, two_cell1 h, two_free h, two_free h⟩, lt_of_block h, by have := lt_of_block h; omega, by have := lt_of_block h; omega⟩
  go_enter Try.func39, Try.ntmps39
  go_wp2_with fail
  refine (IV.out _ (((Ex.new _ _).alloc _).alloc _)).mono ?_
  rintro e w1 ⟨a1, c1, rfl, ht1, hb1⟩
  have x1 : Ex w w1 := (((Ex.new _ _).alloc _).alloc _).trans hb1
  have rb : w1.heap[w.heap.size + 2]? = some (.cells #[.int .i64 0, .slice none 0 0] 39 (0, 0)) := hb1.blk (heap_alloc_at _ _ (by simp))
  have q0 : w1.cell? ⟨w.heap.size, 0, none⟩ = some (.int .i64 n) := hb1.at (((Ex.new _ _).alloc _).at (World.cell?_alloc_new _ _ _ _))
  have q1 : w1.cell? ⟨w.heap.size, 1, none⟩ = some (.slice a (len f) cap) := hb1.at (((Ex.new _ _).alloc _).at (World.cell?_alloc_new _ _ _ _))
  have q2 : w1.cell? ⟨w.heap.size + 1, 0, none⟩ = some (.int .i64 m) := hb1.at ((Ex.new _ _).at (by simp))
  have q3 : w1.cell? ⟨w.heap.size + 1, 1, none⟩ = some (.slice ag (len g) cg) := hb1.at ((Ex.new _ _).at (by simp))
  obtain ⟨⟨d0, d1, d2, d3⟩, z2, z1, z0⟩ := DF.out w1 rb
  cases hv : (valAtR n f p).2
  · have HN : Hid (R = ((0, .nil), false)) := by show _ = _; rw [HR.out, N0.out hv]; rfl
    obtain ⟨k0, hk0⟩ : ∃ k0, k0 = (valAtR n f p).1.1 := ⟨_, rfl⟩
    obtain ⟨l0, hl0⟩ : ∃ l0, l0 = (valAtR n f p).1.2 := ⟨_, rfl⟩
    rw [← hk0, ← hl0]
    clear ht1 hk0 hl0 hv
    go_wp2_with fail
    obtain ⟨hb, hxf⟩ := FI.out w1 _ rb x1 rfl
    have hb' := (Ex.new _ (.cells #[.int .i64 k0, .slice a1 (len l0) c1] 39)).blk hb
    have hr0 := two_cell0 hb'
    have hr1 := two_cell1 hb'
    refine bodyPost_ret (v := .tuple #[.agg #[.int .i64 0, .slice none 0 0], .bool false]) (by simp [results, Try.results39, go_sem, hr0, hr1]) rfl ?_
    exact SPutPost.no HN.out (hxf.alloc _)
  obtain ⟨u, m0, g0, v, hu, hv0, hpu, he⟩ := Y0.out hv
  have HU : Hid (vType 4 n f = some u) := hu
  have HV : Hid (vType 4 m0 g0 = some v) := hv0
  have HP : Hid (partF u p = some v) := hpu
  have HO : Hid (putOk n f p m g = valOk v m g) := put_yes hu hpu
  rw [he] at ht1 ⊢
  have T1 : Hid (∀ w', Ex w1 w' → VA w' 0 g0 a1) := fun w' h => VA_lo (VA_below ht1 h) (Nat.zero_le _)
  clear hv hu hv0 hpu he ht1 N0 Y0
  go_wp2_with fail
  refine (IA.out _ (x1.alloc _)).mono ?_
  rintro e w2 ⟨rfl, hb2⟩
  have xx : Ex w1 w2 := (Ex.new _ _).trans hb2
  have x2 : Ex w w2 := x1.trans xx
  have rb2 := xx.blk rb
  have y0 : w2.cell? ⟨w1.heap.size, 0, none⟩ = some (.int .i64 m0) := hb2.at (World.cell?_alloc_new _ _ _ _)
  have y1 : w2.cell? ⟨w1.heap.size, 1, none⟩ = some (.slice a1 (len g0) c1) := hb2.at (World.cell?_alloc_new _ _ _ _)
  replace q0 := xx.at q0
  replace q1 := xx.at q1
  replace q2 := xx.at q2
  replace q3 := xx.at q3
  have zz : w1.heap.size < w2.heap.size := World.block_lt_of_cell? _ _ y0
  clear d0 d1 d2 d3
  obtain ⟨⟨d0, d1, d2, d3⟩, z2', z1', z0'⟩ := DF.out w2 rb2
  cases ht : vType 4 m g with
  | none =>
    have HN : Hid (R = ((0, .nil), false)) := by show _ = _; rw [HR.out, HO.out]; simp [valOk, ht, ofType]
    simp only [Option.isSome_none]
    clear ht
    go_wp2_with fail
    obtain ⟨hb, hxf⟩ := FI.out w2 _ rb2 x2 rfl
    have hr0 := two_cell0 hb
    have hr1 := two_cell1 hb
    refine bodyPost_ret (v := .tuple #[.agg #[.int .i64 0, .slice none 0 0], .bool false]) (by simp [results, Try.results39, go_sem, hr0, hr1]) rfl ?_
    exact SPutPost.no HN.out hxf
  | some t =>
    have HT : Hid (vType 4 m g = some t) := ht
    have HO2 : Hid (putOk n f p m g = eqT v t) := by show _ = _; rw [HO.out, valOk_eq HV.out ht]
    have SHV : Hid (sh 4 g0 = some v) := vType_sh 4 m0 g0 v HV.out
    have SHT : Hid (sh 4 g = some t) := vType_sh 4 m g t ht
    have SMV : Hid (len v ≤ 2 ∧ Sm v) := fits_sm _ _ (vType_fits 4 m0 g0 v HV.out)
    simp only [Option.isSome_some]
    clear ht
    go_wp2_with fail
    refine (l1Of_any 4 4 m0 g0 a1 c1 0 _ rfl (by omega) (T1.out _ xx)).mono ?_
    rintro e w3 ⟨a3, n3, c3, rfl, hu3, hb3⟩
    obtain ⟨hn3, ht3⟩ := hu3 v SHV.out
    subst hn3
    have sv : (sh 4 g0).isSome = true := by rw [SHV.out]; rfl
    rw [sv]
    have x3 : Ex w w3 := x2.trans hb3
    have rb3 := hb3.blk rb2
    have T3 : Hid (∀ w', Ex w3 w' → TA w' 0 v a3) := fun w' h => TA_lo (TA_below ht3 h) (Nat.zero_le _)
    replace q0 := hb3.at q0
    replace q1 := hb3.at q1
    replace q2 := hb3.at q2
    replace q3 := hb3.at q3
    clear d0 d1 d2 d3 hu3 ht3 y0 y1 sv
    obtain ⟨⟨d0, d1, d2, d3⟩, z2'', z1'', z0''⟩ := DF.out w3 rb3
    go_wp2_with fail
    refine (IO.out _ (x3.alloc _)).mono ?_
    rintro e w4 ⟨a4, n4, c4, rfl, hu4, hb4⟩
    obtain ⟨hn4, ht4⟩ := hu4 t SHT.out
    subst hn4
    have sv : (sh 4 g).isSome = true := by rw [SHT.out]; rfl
    rw [sv]
    have xy : Ex w3 w4 := (Ex.new _ _).trans hb4
    have x4 : Ex w w4 := x3.trans xy
    have rb4 := xy.blk rb3
    have y0 : w4.cell? ⟨w3.heap.size, 0, none⟩ = some (.slice a3 (len v) c3) := hb4.at (World.cell?_alloc_new _ _ _ _)
    have zy : w3.heap.size < w4.heap.size := World.block_lt_of_cell? _ _ y0
    replace q0 := xy.at q0
    replace q1 := xy.at q1
    replace q2 := xy.at q2
    replace q3 := xy.at q3
    have T4 : Hid (∀ w', Ex w4 w' → TA w' 0 t a4) := fun w' h => TA_lo (TA_below ht4 h) (Nat.zero_le _)
    clear d0 d1 d2 d3 hu4 ht4 sv
    obtain ⟨⟨d0, d1, d2, d3⟩, y2'', y1'', y0''⟩ := DF.out w4 rb4
    go_wp2_with fail
    refine (l1Same_any (dep v + 1) v t a3 a4 c3 c4 0 0 _ (by omega) (by have := SMV.out; omega) SMV.out.2 (T3.out _ (xy.trans (Ex.new _ _))) (T4.out _ (Ex.new _ _))).mono ?_
    rintro e w5 ⟨rfl, hb5⟩
    have xz : Ex w4 w5 := (Ex.new _ _).trans hb5
    have x5 : Ex w w5 := x4.trans xz
    have rb5 := xz.blk rb4
    replace q0 := xz.at q0
    replace q1 := xz.at q1
    replace q2 := xz.at q2
    replace q3 := xz.at q3
    clear d0 d1 d2 d3 y0
    obtain ⟨⟨d0, d1, d2, d3⟩, u2'', u1'', u0''⟩ := DF.out w5 rb5
    cases hk : eqT v t
    · have HN : Hid (R = ((0, .nil), false)) := by show _ = _; rw [HR.out, HO2.out, hk]; rfl
      clear hk
      go_wp2_with fail
      obtain ⟨hb, hxf⟩ := FI.out w5 _ rb5 x5 rfl
      have hr0 := two_cell0 hb
      have hr1 := two_cell1 hb
      refine bodyPost_ret (v := .tuple #[.agg #[.int .i64 0, .slice none 0 0], .bool false]) (by simp [results, Try.results39, go_sem, hr0, hr1]) rfl ?_
      exact SPutPost.no HN.out hxf
    · have HN : Hid (R = (putV p n f m g, true)) := by show _ = _; rw [HR.out, HO2.out, hk]; rfl
      have IX : Hid (Calls Try.prog 79 #[.agg #[.int .i64 n, .slice a (len f) cap], .slice pa p.length pc, .agg #[.int .i64 m, .slice ag (len g) cg]] w5 (PuPost (putV p n f m g).1 (putV p n f m g).2 w5)) := IW.out u v w5 HU.out HP.out x5
      generalize putV p n f m g = pv at *
      obtain ⟨pn, pf⟩ := pv
      clear hk IW
      go_wp2_with fail
      refine Calls.mono IX.out ?_
      rintro e w6 ⟨a6, c6, rfl, ht6, hb6⟩
      have x6 : Ex w w6 := x5.trans hb6
      have rb6 := hb6.blk rb5
      have zz : w.heap.size + 2 < w5.heap.size := lt_of_block rb5
      have T6 : Hid (VA w6 w5.heap.size pf a6) := ht6
      clear ht6 d0 d1 d2 d3
      obtain ⟨⟨d0, d1, d2, d3⟩, v2'', v1'', v0''⟩ := DF.out w6 rb6
      go_wp2_with fail
      have hb7 := two_set (u' := .int .i64 pn) (v' := .slice a6 (len pf) c6) rb6
      have hr0 := two_cell0 hb7
      have hr1 := two_cell1 hb7
      refine bodyPost_ret (v := .tuple #[.agg #[.int .i64 pn, .slice a6 (len pf) c6], .bool true]) (by simp [results, Try.results39, go_sem, hr0, hr1]) rfl ?_
      rw [HN.out]
      exact ⟨a6, c6, rfl, VA_lo (VA_set (VA_set T6.out (by show w.heap.size + 2 < w5.heap.size; omega) _) (by show w.heap.size + 2 < w5.heap.size; omega) _) (by omega), (x6.set (by show w.heap.size ≤ w.heap.size + 2; omega) _).set (by show w.heap.size ≤ w.heap.size + 2; omega) _⟩

end Go.Proofs.Ytomnekiiccbioaa
