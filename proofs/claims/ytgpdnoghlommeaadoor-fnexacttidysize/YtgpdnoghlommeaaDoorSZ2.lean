/- Walks: bindings, bodies and functions counted by the exact laws. -/
import Derived.Test.YtgpdnoghlommeaaDoorGSZ1

import Derived.Test.YtgpdnoghlommeaaDoorGBD3

namespace Go.Proofs.YtgpdnoghlommeaaDoor

open Go.RowKit Go.Deep

attribute [local go_sem ↓] Go.wp_at_zero Go.wp_at_succ

/-- All lists and names are of a length that is one. -/
def BLm : BD → Prop
  | .nil => True
  | .node _ _ _ _ .nil => True
  | .node _ _ (_, ns, fn, ts, tz, ez) tb (.node _ _ _ eb r) => ns.length ≤ 9223372036854775807 ∧ XLm ns ∧ fn.size ≤ 9223372036854775807 ∧ tlen ts ≤ 9223372036854775807 ∧ TLm ts ∧ blen tb ≤ 9223372036854775807 ∧ BLm tb ∧ tlen tz ≤ 9223372036854775807 ∧ TLm tz ∧ blen eb ≤ 9223372036854775807 ∧ BLm eb ∧ tlen ez ≤ 9223372036854775807 ∧ TLm ez ∧ BLm r
theorem BLm_at : ∀ {f : BD}, BLm f → ∀ i, i < blen f → (bnames f i).length ≤ 9223372036854775807 ∧ XLm (bnames f i) ∧ (bfn f i).size ≤ 9223372036854775807 ∧ tlen (bterms f i) ≤ 9223372036854775807 ∧ TLm (bterms f i) ∧ blen (bthen f i) ≤ 9223372036854775807 ∧ BLm (bthen f i) ∧ tlen (btsay f i) ≤ 9223372036854775807 ∧ TLm (btsay f i) ∧ blen (belse f i) ≤ 9223372036854775807 ∧ BLm (belse f i) ∧ tlen (besay f i) ≤ 9223372036854775807 ∧ TLm (besay f i)
  | .nil, _, i, h => by simp [blen] at h
  | .node _ _ _ _ .nil, _, i, h => by simp [blen] at h
  | .node _ _ (_, _, _, _, _, _) _ (.node _ _ _ _ r), hs, 0, _ => ⟨hs.1, hs.2.1, hs.2.2.1, hs.2.2.2.1, hs.2.2.2.2.1, hs.2.2.2.2.2.1, hs.2.2.2.2.2.2.1, hs.2.2.2.2.2.2.2.1, hs.2.2.2.2.2.2.2.2.1, hs.2.2.2.2.2.2.2.2.2.1, hs.2.2.2.2.2.2.2.2.2.2.1, hs.2.2.2.2.2.2.2.2.2.2.2.1, hs.2.2.2.2.2.2.2.2.2.2.2.2.1⟩
  | .node _ _ (_, _, _, _, _, _) _ (.node _ _ _ _ r), hs, i + 1, h => BLm_at hs.2.2.2.2.2.2.2.2.2.2.2.2.2 i (by simp only [blen] at h; omega)

/-- How much bindings count. -/
def bW : BD → Nat
  | .nil => 0
  | .node _ _ _ _ .nil => 0
  | .node _ _ (_, ns, fn, ts, tz, ez) tb (.node _ _ _ eb r) => 1 + (xW ns + fn.size + tW ts + (bW tb + tW tz) + (bW eb + tW ez)) + bW r
def bWk (f : BD) (j : Nat) : Nat := xW (bnames f j) + (bfn f j).size + tW (bterms f j) + (bW (bthen f j) + tW (btsay f j)) + (bW (belse f j) + tW (besay f j))
theorem bW_sum : ∀ f : BD, bW f = blen f + sumN (bWk f) (blen f)
  | .nil => rfl
  | .node _ _ _ _ .nil => rfl
  | .node a b (k, ns, fn, ts, tz, ez) tb (.node c d q eb r) => by
    have h : sumN (fun i => bWk (.node a b (k, ns, fn, ts, tz, ez) tb (.node c d q eb r)) (i + 1)) (blen r) = sumN (bWk r) (blen r) := sumN_eq _ fun i _ => rfl
    rw [blen, sumN_shift, h, bW, bW_sum r]
    show _ = _ + ((xW ns + fn.size + tW ts + (bW tb + tW tz) + (bW eb + tW ez)) + _)
    omega

def BSmTo (f : BD) (k : Nat) : Prop := ∀ j, j < k → (bnames f j).length ≤ 1048576 ∧ (tlen (bterms f j) ≤ 1048576 ∧ TSm (bterms f j)) ∧ ((blen (bthen f j) ≤ 1048576 ∧ BSm (bthen f j)) ∧ tlen (btsay f j) ≤ 1048576 ∧ TSm (btsay f j)) ∧ ((blen (belse f j) ≤ 1048576 ∧ BSm (belse f j)) ∧ tlen (besay f j) ≤ 1048576 ∧ TSm (besay f j))
theorem BSm_of : ∀ {f : BD}, BSmTo f (blen f) → BSm f
  | .nil, _ => trivial
  | .node _ _ _ _ .nil, _ => trivial
  | .node _ _ (_, ns, fn, ts, tz, ez) tb (.node _ _ _ eb r), h => by
    obtain ⟨h1, ⟨h2, h3⟩, ⟨⟨h4, h5⟩, h6, h7⟩, ⟨h8, h9⟩, ha, hb⟩ := h 0 (by simp [blen])
    simp only [bnames, bterms, bthen, btsay, belse, besay] at h1 h2 h3 h4 h5 h6 h7 h8 h9 ha hb
    exact ⟨by omega, by omega, h3, by omega, h5, by omega, h7, by omega, h9, by omega, hb, BSm_of fun j hj => h (j + 1) (by simp only [blen]; omega)⟩

set_option maxRecDepth 100000 in
set_option maxHeartbeats 2000000 in
theorem szBindS_by (f : BD) (a : Option Addr) (c : Nat) (l : Int) (w : World) (hlen : blen f ≤ 9223372036854775807) (h0 : 0 ≤ l) (h1 : l ≤ 1048576) (hT : BA w 0 f a)
    (hK : ∀ j, j < blen f → ∀ (a1 : Option Addr) (k1 : Nat) (a3 : Option Addr) (k3 : Nat) (a4 : Option Addr) (k4 : Nat) (a5 : Option Addr) (k5 : Nat) (a6 : Option Addr) (k6 : Nat) (a7 : Option Addr) (k7 : Nat) (m : Int) (w' : World), Ex w w' → 0 ≤ m → m ≤ 1048576 → XA w' 0 (bnames f j) a1 → MA w' 0 (bterms f j) a3 → BA w' 0 (bthen f j) a4 → MA w' 0 (btsay f j) a5 → BA w' 0 (belse f j) a6 → MA w' 0 (besay f j) a7 → Calls Tryd.prog 39 #[.agg #[.int .i64 (bkind f j), .slice a1 (bnames f j).length k1, .string (bfn f j), .slice a3 (tlen (bterms f j)) k3, .slice a4 (blen (bthen f j)) k4, .slice a5 (tlen (btsay f j)) k5, .slice a6 (blen (belse f j)) k6, .slice a7 (tlen (besay f j)) k7], .int .i64 m] w' (SzP (bWk f j) ((bnames f j).length ≤ 1048576 ∧ (tlen (bterms f j) ≤ 1048576 ∧ TSm (bterms f j)) ∧ ((blen (bthen f j) ≤ 1048576 ∧ BSm (bthen f j)) ∧ tlen (btsay f j) ≤ 1048576 ∧ TSm (btsay f j)) ∧ ((blen (belse f j) ≤ 1048576 ∧ BSm (belse f j)) ∧ tlen (besay f j) ≤ 1048576 ∧ TSm (besay f j))) m w')) :
    Calls Tryd.prog 28 #[.slice a (blen f) c, .int .i64 l] w (SzP (bW f) (blen f ≤ 1048576 ∧ BSm f) l w) := by
  have T : Hid (∀ w', Ex w w' → BA w' 0 f a) := fun _ h => BA_below hT h
  have I : Hid _ := hK
  clear hT hK
  by_cases hneg : l - blen f < 0
  · go_enter Tryd.func28, Tryd.ntmps28
    go_wp2_with fail
    go_ret
    exact ⟨-1, rfl, by omega, by omega, fun h => by omega, Ex.refl _⟩
  · go_enter Tryd.func28, Tryd.ntmps28
    go_wp2_with fail
    go_loopw [1, 5] (fun lv i wr => ∃ (k : Nat) (x : Int), k ≤ blen f ∧ i = .int .i64 k ∧ lv = .int .i64 x ∧ 0 ≤ x ∧ x + (blen f + sumN (bWk f) k : Nat) ≤ l ∧ BSmTo f k ∧ Ex w wr) (fun _ i _ => blen f - (intOf i).toNat)
    case atStart => exact ⟨0, l - blen f, Nat.zero_le _, rfl, rfl, by omega, by simp only [sumN]; omega, fun j hj => by omega, Ex.refl _⟩
    case round =>
      obtain ⟨j, x, hk, rfl, rfl, hx0, hxl, hsm, hx⟩ := hrel
      have ST : Hid (BSmTo f j) := hsm
      have HX : Hid (x + (blen f + sumN (bWk f) j : Nat) ≤ l) := hxl
      have hxm : x ≤ l := by omega
      clear hxl
      have X : Hid (Ex w wr) := hx
      clear hsm hx
      by_cases hlt : j < blen f
      · obtain ⟨b, o, rfl, _, hbs, hk⟩ := BA_at (T.out wr X.out) (by omega)
        obtain ⟨b0, ⟨a1, k1, b1, hnc, x1⟩, b2, ⟨a3, k3, b3, x3⟩, ⟨a4, k4, b4, x4⟩, ⟨a5, k5, b5, x5⟩, ⟨a6, k6, b6, x6⟩, ⟨a7, k7, b7, x7⟩⟩ := hk j hlt
        have HI : Hid _ := I.out j hlt a1 k1 a3 k3 a4 k4 a5 k5 a6 k6 a7 k7 x wr X.out hx0 (by omega) x1 x3 x4 x5 x6 x7
        clear hk hnc x1 x3 x4 x5 x6 x7
        go_wp2_with fail
        refine Calls.mono HI.out ?_
        rintro e w1 ⟨y, rfl, hy0, hy1, hyf, hb1⟩
        have YF : Hid (0 ≤ y → (bnames f j).length ≤ 1048576 ∧ (tlen (bterms f j) ≤ 1048576 ∧ TSm (bterms f j)) ∧ ((blen (bthen f j) ≤ 1048576 ∧ BSm (bthen f j)) ∧ tlen (btsay f j) ≤ 1048576 ∧ TSm (btsay f j)) ∧ ((blen (belse f j) ≤ 1048576 ∧ BSm (belse f j)) ∧ tlen (besay f j) ≤ 1048576 ∧ TSm (besay f j))) := fun h => (hyf h).1
        have YW : Hid (0 ≤ y → y + (bWk f j : Nat) ≤ x) := fun h => (hyf h).2
        have X1 : Hid (Ex w w1) := X.out.trans hb1
        clear hyf hb1 HI
        by_cases hy : y < 0
        · go_wp2_with fail
          go_ret
          exact ⟨-1, rfl, by omega, by omega, fun h => by omega, X1.out⟩
        · have HS : Hid (BSmTo f (j + 1)) := fun i hi => by
            by_cases hj' : i < j
            · exact ST.out i hj'
            · have e : i = j := by omega
              subst e
              exact YF.out (by omega)
          have HX2 : Hid (y + (blen f + sumN (bWk f) (j + 1) : Nat) ≤ l) := by
            have q1 := HX.out
            have q2 := YW.out (by omega)
            show _ ≤ _
            simp only [sumN]
            omega
          go_wp2_with fail
          go_roundw
          case rel => exact ⟨j + 1, y, by omega, by go_num, rfl, by omega, HX2.out, HS.out, X1.out⟩
          case measure => simp [intOf]; omega
      · have hjl : j = blen f := by omega
        have HS : Hid _ := BSm_of (hjl ▸ ST.out)
        have HX2 : Hid (x + (bW f : Nat) ≤ l) := by
          have q1 := HX.out
          rw [hjl] at q1
          show _ ≤ _
          rw [bW_sum]
          exact q1
        clear hjl
        go_wp2_with fail
        go_ret
        exact ⟨x, rfl, by omega, by omega, fun _ => ⟨⟨by omega, HS.out⟩, HX2.out⟩, X.out⟩

set_option maxRecDepth 100000 in
set_option maxHeartbeats 2000000 in
theorem szBind_by (k : Int) (nm : List ByteArray) (a1 : Option Addr) (k1 : Nat) (fn : ByteArray) (ts : TM) (a3 : Option Addr) (k3 : Nat) (tb : BD) (a4 : Option Addr) (k4 : Nat) (tz : TM) (a5 : Option Addr) (k5 : Nat) (eb : BD) (a6 : Option Addr) (k6 : Nat) (ez : TM) (a7 : Option Addr) (k7 : Nat) (l : Int) (w : World) (hn : nm.length ≤ 9223372036854775807) (hx : XLm nm) (hf : fn.size ≤ 9223372036854775807) (ht : tlen ts ≤ 9223372036854775807) (htl : TLm ts) (hX : XA w 0 nm a1) (hM : MA w 0 ts a3) (hT : ∀ (m : Int) (w' : World), Ex w w' → 0 ≤ m → m ≤ 1048576 → Calls Tryd.prog 17 #[.agg #[.slice a4 (blen tb) k4, .slice a5 (tlen tz) k5], .int .i64 m] w' (SzP (bW tb + tW tz) ((blen tb ≤ 1048576 ∧ BSm tb) ∧ tlen tz ≤ 1048576 ∧ TSm tz) m w')) (hE : ∀ (m : Int) (w' : World), Ex w w' → 0 ≤ m → m ≤ 1048576 → Calls Tryd.prog 17 #[.agg #[.slice a6 (blen eb) k6, .slice a7 (tlen ez) k7], .int .i64 m] w' (SzP (bW eb + tW ez) ((blen eb ≤ 1048576 ∧ BSm eb) ∧ tlen ez ≤ 1048576 ∧ TSm ez) m w')) (h0 : 0 ≤ l) (h1 : l ≤ 1048576) :
    Calls Tryd.prog 39 #[.agg #[.int .i64 k, .slice a1 nm.length k1, .string fn, .slice a3 (tlen ts) k3, .slice a4 (blen tb) k4, .slice a5 (tlen tz) k5, .slice a6 (blen eb) k6, .slice a7 (tlen ez) k7], .int .i64 l] w (SzP (xW nm + fn.size + tW ts + (bW tb + tW tz) + (bW eb + tW ez)) (nm.length ≤ 1048576 ∧ (tlen ts ≤ 1048576 ∧ TSm ts) ∧ ((blen tb ≤ 1048576 ∧ BSm tb) ∧ tlen tz ≤ 1048576 ∧ TSm tz) ∧ ((blen eb ≤ 1048576 ∧ BSm eb) ∧ tlen ez ≤ 1048576 ∧ TSm ez)) l w) := by
  have N : Hid (Ex w (w.alloc (.cells #[.int .i64 k, .slice a1 nm.length k1, .string fn, .slice a3 (tlen ts) k3, .slice a4 (blen tb) k4, .slice a5 (tlen tz) k5, .slice a6 (blen eb) k6, .slice a7 (tlen ez) k7] 80))) := Ex.new _ _
  have C : Hid (∀ w', Ex (w.alloc (.cells #[.int .i64 k, .slice a1 nm.length k1, .string fn, .slice a3 (tlen ts) k3, .slice a4 (blen tb) k4, .slice a5 (tlen tz) k5, .slice a6 (blen eb) k6, .slice a7 (tlen ez) k7] 80)) w' → w'.cell? ⟨w.heap.size, 0, none⟩ = some (.int .i64 k) ∧ w'.cell? ⟨w.heap.size, 1, none⟩ = some (.slice a1 nm.length k1) ∧ w'.cell? ⟨w.heap.size, 2, none⟩ = some (.string fn) ∧ w'.cell? ⟨w.heap.size, 3, none⟩ = some (.slice a3 (tlen ts) k3) ∧ w'.cell? ⟨w.heap.size, 4, none⟩ = some (.slice a4 (blen tb) k4) ∧ w'.cell? ⟨w.heap.size, 5, none⟩ = some (.slice a5 (tlen tz) k5) ∧ w'.cell? ⟨w.heap.size, 6, none⟩ = some (.slice a6 (blen eb) k6) ∧ w'.cell? ⟨w.heap.size, 7, none⟩ = some (.slice a7 (tlen ez) k7)) := fun w' h => ⟨h.at (by simp), h.at (by simp), h.at (by simp), h.at (by simp), h.at (by simp), h.at (by simp), h.at (by simp), h.at (by simp)⟩
  go_enter Tryd.func39, Tryd.ntmps39
  go_wp2_with fail
  refine (szTexts_any nm a1 k1 l _ hn hx (by omega) (by omega) (XA_below hX N.out)).mono ?_
  rintro e w1 ⟨x1, rfl, hxa1, hxb1, hxf1, hxe1⟩
  have F1 : Hid (0 ≤ x1 → nm.length ≤ 1048576) := fun h => (hxf1 h).1
  have HV1 : Hid (0 ≤ x1 → x1 + (xW nm : Nat) ≤ l) := fun h => (hxf1 h).2
  have X1 : Hid (Ex (w.alloc (.cells #[.int .i64 k, .slice a1 nm.length k1, .string fn, .slice a3 (tlen ts) k3, .slice a4 (blen tb) k4, .slice a5 (tlen tz) k5, .slice a6 (blen eb) k6, .slice a7 (tlen ez) k7] 80)) w1) := hxe1
  have hr1 : x1 ≤ l := by omega
  clear hxf1 hxe1
  obtain ⟨c0, c1, c2, c3, c4, c5, c6, c7⟩ := C.out w1 X1.out
  by_cases hx1 : x1 < 0
  · go_wp2_with fail
    go_ret
    exact ⟨-1, rfl, by omega, by omega, fun h => by omega, (N.out.trans X1.out)⟩
  by_cases hb2 : x1 - fn.size < 0
  · go_wp2_with fail
    go_ret
    exact ⟨-1, rfl, by omega, by omega, fun h => by omega, (N.out.trans X1.out)⟩
  obtain ⟨m2, hm2⟩ : ∃ m : Int, m = x1 - fn.size := ⟨_, rfl⟩
  have hp2 : 0 ≤ m2 := by omega
  have HV2 : Hid (m2 + (fn.size : Nat) ≤ x1) := by show _ ≤ _; omega
  have hq2 : m2 ≤ l := by omega
  go_wp2_with fail
  rw [← hm2]
  clear hb2 hm2
  refine (szTermS_any ts a3 k3 m2 _ ht htl (by omega) (by omega) (MA_below hM (N.out.trans X1.out))).mono ?_
  rintro e w3 ⟨x3, rfl, hxa3, hxb3, hxf3, hxe3⟩
  have F3 : Hid (0 ≤ x3 → tlen ts ≤ 1048576 ∧ TSm ts) := fun h => (hxf3 h).1
  have HV3 : Hid (0 ≤ x3 → x3 + (tW ts : Nat) ≤ m2) := fun h => (hxf3 h).2
  have X3 : Hid (Ex (w.alloc (.cells #[.int .i64 k, .slice a1 nm.length k1, .string fn, .slice a3 (tlen ts) k3, .slice a4 (blen tb) k4, .slice a5 (tlen tz) k5, .slice a6 (blen eb) k6, .slice a7 (tlen ez) k7] 80)) w3) := X1.out.trans hxe3
  have hr3 : x3 ≤ l := by omega
  clear hxf3 hxe3
  clear c0 c1 c2 c3 c4 c5 c6 c7
  obtain ⟨c0, c1, c2, c3, c4, c5, c6, c7⟩ := C.out w3 X3.out
  by_cases hx3 : x3 < 0
  · go_wp2_with fail
    go_ret
    exact ⟨-1, rfl, by omega, by omega, fun h => by omega, (N.out.trans X3.out)⟩
  go_wp2_with fail
  refine (hT x3 _ (N.out.trans X3.out) (by omega) (by omega)).mono ?_
  rintro e w4 ⟨x4, rfl, hxa4, hxb4, hxf4, hxe4⟩
  have F4 : Hid (0 ≤ x4 → (blen tb ≤ 1048576 ∧ BSm tb) ∧ tlen tz ≤ 1048576 ∧ TSm tz) := fun h => (hxf4 h).1
  have HV4 : Hid (0 ≤ x4 → x4 + (bW tb + tW tz : Nat) ≤ x3) := fun h => (hxf4 h).2
  have X4 : Hid (Ex (w.alloc (.cells #[.int .i64 k, .slice a1 nm.length k1, .string fn, .slice a3 (tlen ts) k3, .slice a4 (blen tb) k4, .slice a5 (tlen tz) k5, .slice a6 (blen eb) k6, .slice a7 (tlen ez) k7] 80)) w4) := X3.out.trans hxe4
  have hr4 : x4 ≤ l := by omega
  clear hxf4 hxe4
  clear c0 c1 c2 c3 c4 c5 c6 c7
  obtain ⟨c0, c1, c2, c3, c4, c5, c6, c7⟩ := C.out w4 X4.out
  by_cases hx4 : x4 < 0
  · go_wp2_with fail
    go_ret
    exact ⟨-1, rfl, by omega, by omega, fun h => by omega, (N.out.trans X4.out)⟩
  go_wp2_with fail
  refine (hE x4 _ (N.out.trans X4.out) (by omega) (by omega)).mono ?_
  rintro e w5 ⟨x5, rfl, hxa5, hxb5, hxf5, hxe5⟩
  have F5 : Hid (0 ≤ x5 → (blen eb ≤ 1048576 ∧ BSm eb) ∧ tlen ez ≤ 1048576 ∧ TSm ez) := fun h => (hxf5 h).1
  have HV5 : Hid (0 ≤ x5 → x5 + (bW eb + tW ez : Nat) ≤ x4) := fun h => (hxf5 h).2
  have X5 : Hid (Ex (w.alloc (.cells #[.int .i64 k, .slice a1 nm.length k1, .string fn, .slice a3 (tlen ts) k3, .slice a4 (blen tb) k4, .slice a5 (tlen tz) k5, .slice a6 (blen eb) k6, .slice a7 (tlen ez) k7] 80)) w5) := X4.out.trans hxe5
  have hr5 : x5 ≤ l := by omega
  clear hxf5 hxe5
  clear c0 c1 c2 c3 c4 c5 c6 c7
  obtain ⟨c0, c1, c2, c3, c4, c5, c6, c7⟩ := C.out w5 X5.out
  by_cases hx5 : x5 < 0
  · go_wp2_with fail
    go_ret
    exact ⟨-1, rfl, by omega, by omega, fun h => by omega, (N.out.trans X5.out)⟩
  go_wp2_with fail
  go_ret
  exact ⟨x5, rfl, by omega, by omega, fun _ => ⟨⟨F1.out (by omega), F3.out (by omega), F4.out (by omega), F5.out (by omega)⟩, by have v2 := HV2.out; have v1 := HV1.out (by omega); have v3 := HV3.out (by omega); have v4 := HV4.out (by omega); have v5 := HV5.out (by omega); omega⟩, (N.out.trans X5.out)⟩

set_option maxRecDepth 100000 in
set_option maxHeartbeats 2000000 in
theorem szBody_by (b : BD) (ba : Option Addr) (bc : Nat) (z : TM) (za : Option Addr) (zc : Nat) (l : Int) (w : World) (hz : tlen z ≤ 9223372036854775807) (hzl : TLm z) (hM : MA w 0 z za) (hB : ∀ (m : Int) (w' : World), Ex w w' → 0 ≤ m → m ≤ 1048576 → Calls Tryd.prog 28 #[.slice ba (blen b) bc, .int .i64 m] w' (SzP (bW b) (blen b ≤ 1048576 ∧ BSm b) m w')) (h0 : 0 ≤ l) (h1 : l ≤ 1048576) :
    Calls Tryd.prog 17 #[.agg #[.slice ba (blen b) bc, .slice za (tlen z) zc], .int .i64 l] w (SzP (bW b + tW z) ((blen b ≤ 1048576 ∧ BSm b) ∧ tlen z ≤ 1048576 ∧ TSm z) l w) := by
  have N : Hid (Ex w (w.alloc (.cells #[.slice ba (blen b) bc, .slice za (tlen z) zc] 34))) := Ex.new _ _
  have C : Hid (∀ w', Ex (w.alloc (.cells #[.slice ba (blen b) bc, .slice za (tlen z) zc] 34)) w' → w'.cell? ⟨w.heap.size, 0, none⟩ = some (.slice ba (blen b) bc) ∧ w'.cell? ⟨w.heap.size, 1, none⟩ = some (.slice za (tlen z) zc)) := fun w' h => ⟨h.at (by simp), h.at (by simp)⟩
  go_enter Tryd.func17, Tryd.ntmps17
  go_wp2_with fail
  refine (hB l _ N.out (by omega) (by omega)).mono ?_
  rintro e w1 ⟨x1, rfl, hxa1, hxb1, hxf1, hxe1⟩
  have F1 : Hid (0 ≤ x1 → blen b ≤ 1048576 ∧ BSm b) := fun h => (hxf1 h).1
  have HV1 : Hid (0 ≤ x1 → x1 + (bW b : Nat) ≤ l) := fun h => (hxf1 h).2
  have X1 : Hid (Ex (w.alloc (.cells #[.slice ba (blen b) bc, .slice za (tlen z) zc] 34)) w1) := hxe1
  have hr1 : x1 ≤ l := by omega
  clear hxf1 hxe1
  obtain ⟨c0, c1⟩ := C.out w1 X1.out
  by_cases hx1 : x1 < 0
  · go_wp2_with fail
    go_ret
    exact ⟨-1, rfl, by omega, by omega, fun h => by omega, (N.out.trans X1.out)⟩
  go_wp2_with fail
  refine (szTermS_any z za zc x1 _ hz hzl (by omega) (by omega) (MA_below hM (N.out.trans X1.out))).mono ?_
  rintro e w2 ⟨x2, rfl, hxa2, hxb2, hxf2, hxe2⟩
  have F2 : Hid (0 ≤ x2 → tlen z ≤ 1048576 ∧ TSm z) := fun h => (hxf2 h).1
  have HV2 : Hid (0 ≤ x2 → x2 + (tW z : Nat) ≤ x1) := fun h => (hxf2 h).2
  have X2 : Hid (Ex (w.alloc (.cells #[.slice ba (blen b) bc, .slice za (tlen z) zc] 34)) w2) := X1.out.trans hxe2
  have hr2 : x2 ≤ l := by omega
  clear hxf2 hxe2
  clear c0 c1
  obtain ⟨c0, c1⟩ := C.out w2 X2.out
  by_cases hx2 : x2 < 0
  · go_wp2_with fail
    go_ret
    exact ⟨-1, rfl, by omega, by omega, fun h => by omega, (N.out.trans X2.out)⟩
  go_wp2_with fail
  go_ret
  exact ⟨x2, rfl, by omega, by omega, fun _ => ⟨⟨F1.out (by omega), F2.out (by omega)⟩, by have v1 := HV1.out (by omega); have v2 := HV2.out (by omega); omega⟩, (N.out.trans X2.out)⟩

theorem szBody_all : ∀ (d : Nat) (b : BD) (ba : Option Addr) (bc : Nat) (z : TM) (za : Option Addr) (zc : Nat) (l : Int) (w : World), bdep b < d → blen b ≤ 9223372036854775807 → BLm b → tlen z ≤ 9223372036854775807 → TLm z → 0 ≤ l → l ≤ 1048576 → BA w 0 b ba → MA w 0 z za →
    Calls Tryd.prog 17 #[.agg #[.slice ba (blen b) bc, .slice za (tlen z) zc], .int .i64 l] w (SzP (bW b + tW z) ((blen b ≤ 1048576 ∧ BSm b) ∧ tlen z ≤ 1048576 ∧ TSm z) l w) := by
  intro d
  induction d with
  | zero => intro b ba bc z za zc l w hd; omega
  | succ d ih =>
    intro b ba bc z za zc l w hd hbl hbm hzl hzm h0 h1 hB hM
    refine szBody_by b ba bc z za zc l w hzl hzm hM (fun m w' hx hm0 hm1 => ?_) h0 h1
    refine szBindS_by b ba bc m w' hbl hm0 hm1 (BA_below hB hx) fun j hj a1 k1 a3 k3 a4 k4 a5 k5 a6 k6 a7 k7 m2 w2 hx2 hm2 hm3 y1 y3 y4 y5 y6 y7 => ?_
    obtain ⟨g1, g2, g3, g4, g5, g6, g7, g8, g9, ga, gb, gc, gd⟩ := BLm_at hbm j hj
    have hdj := bdep_kid b j hj
    exact szBind_by _ _ a1 k1 _ _ a3 k3 _ a4 k4 _ a5 k5 _ a6 k6 _ a7 k7 m2 w2 g1 g2 g3 g4 g5 y1 y3
      (fun m4 w4 hx4 h4 h5 => ih _ a4 k4 _ a5 k5 m4 w4 (by omega) g6 g7 g8 g9 h4 h5 (BA_below y4 hx4) (MA_below y5 hx4))
      (fun m4 w4 hx4 h4 h5 => ih _ a6 k6 _ a7 k7 m4 w4 (by omega) ga gb gc gd h4 h5 (BA_below y6 hx4) (MA_below y7 hx4)) hm2 hm3

/-- All lists and names of a function are of a length that is one. -/
def PLm (f : PM) : Prop := f.name.size ≤ 9223372036854775807 ∧ f.params.length ≤ 9223372036854775807 ∧ XLm f.params ∧ blen f.binds ≤ 9223372036854775807 ∧ BLm f.binds ∧ tlen f.says ≤ 9223372036854775807 ∧ TLm f.says
/-- All lists are of a length that can be counted. -/
def PSk (f : PM) : Prop := f.params.length ≤ 1048576 ∧ (blen f.binds ≤ 1048576 ∧ BSm f.binds) ∧ tlen f.says ≤ 1048576 ∧ TSm f.says
/-- How much a function counts, and how much functions. -/
def pW (f : PM) : Nat := f.name.size + xW f.params + (bW f.binds + tW f.says)
def qWk (l : List PM) (j : Nat) : Nat := pW (l.getD j pm0)
def qW (l : List PM) : Nat := l.length + sumN (qWk l) l.length
theorem qW_sum (l : List PM) : qW l = l.length + sumN (qWk l) l.length := rfl
def PSkTo (l : List PM) (k : Nat) : Prop := ∀ j, j < k → PSk (l.getD j pm0)

set_option maxRecDepth 100000 in
set_option maxHeartbeats 2000000 in
theorem szPure_by (nm : ByteArray) (ps : List ByteArray) (a1 : Option Addr) (k1 : Nat) (b : BD) (a2 : Option Addr) (k2 : Nat) (z : TM) (a3 : Option Addr) (k3 : Nat) (l : Int) (w : World) (hn : nm.size ≤ 9223372036854775807) (hp : ps.length ≤ 9223372036854775807) (hx : XLm ps) (hX : XA w 0 ps a1) (hB : ∀ (m : Int) (w' : World), Ex w w' → 0 ≤ m → m ≤ 1048576 → Calls Tryd.prog 17 #[.agg #[.slice a2 (blen b) k2, .slice a3 (tlen z) k3], .int .i64 m] w' (SzP (bW b + tW z) ((blen b ≤ 1048576 ∧ BSm b) ∧ tlen z ≤ 1048576 ∧ TSm z) m w')) (h0 : 0 ≤ l) (h1 : l ≤ 1048576) :
    Calls Tryd.prog 9 #[.agg #[.string nm, .slice a1 ps.length k1, .slice a2 (blen b) k2, .slice a3 (tlen z) k3], .int .i64 l] w (SzP (nm.size + xW ps + (bW b + tW z)) (ps.length ≤ 1048576 ∧ (blen b ≤ 1048576 ∧ BSm b) ∧ tlen z ≤ 1048576 ∧ TSm z) l w) := by
  have N : Hid (Ex w (w.alloc (.cells #[.string nm, .slice a1 ps.length k1, .slice a2 (blen b) k2, .slice a3 (tlen z) k3] 36))) := Ex.new _ _
  have C : Hid (∀ w', Ex (w.alloc (.cells #[.string nm, .slice a1 ps.length k1, .slice a2 (blen b) k2, .slice a3 (tlen z) k3] 36)) w' → w'.cell? ⟨w.heap.size, 0, none⟩ = some (.string nm) ∧ w'.cell? ⟨w.heap.size, 1, none⟩ = some (.slice a1 ps.length k1) ∧ w'.cell? ⟨w.heap.size, 2, none⟩ = some (.slice a2 (blen b) k2) ∧ w'.cell? ⟨w.heap.size, 3, none⟩ = some (.slice a3 (tlen z) k3)) := fun w' h => ⟨h.at (by simp), h.at (by simp), h.at (by simp), h.at (by simp)⟩
  by_cases hb1 : l - nm.size < 0
  · go_enter Tryd.func9, Tryd.ntmps9
    go_wp2_with fail
    go_ret
    exact ⟨-1, rfl, by omega, by omega, fun h => by omega, N.out⟩
  obtain ⟨m1, hm1⟩ : ∃ m : Int, m = l - nm.size := ⟨_, rfl⟩
  have hp1 : 0 ≤ m1 := by omega
  have HV1 : Hid (m1 + (nm.size : Nat) ≤ l) := by show _ ≤ _; omega
  have hq1 : m1 ≤ l := by omega
  go_enter Tryd.func9, Tryd.ntmps9
  go_wp2_with fail
  rw [← hm1]
  clear hb1 hm1
  refine (szTexts_any ps a1 k1 m1 _ hp hx (by omega) (by omega) (XA_below hX N.out)).mono ?_
  rintro e w2 ⟨x2, rfl, hxa2, hxb2, hxf2, hxe2⟩
  have F2 : Hid (0 ≤ x2 → ps.length ≤ 1048576) := fun h => (hxf2 h).1
  have HV2 : Hid (0 ≤ x2 → x2 + (xW ps : Nat) ≤ m1) := fun h => (hxf2 h).2
  have X2 : Hid (Ex (w.alloc (.cells #[.string nm, .slice a1 ps.length k1, .slice a2 (blen b) k2, .slice a3 (tlen z) k3] 36)) w2) := hxe2
  have hr2 : x2 ≤ l := by omega
  clear hxf2 hxe2
  obtain ⟨c0, c1, c2, c3⟩ := C.out w2 X2.out
  by_cases hx2 : x2 < 0
  · go_wp2_with fail
    go_ret
    exact ⟨-1, rfl, by omega, by omega, fun h => by omega, (N.out.trans X2.out)⟩
  go_wp2_with fail
  refine (hB x2 _ (N.out.trans X2.out) (by omega) (by omega)).mono ?_
  rintro e w3 ⟨x3, rfl, hxa3, hxb3, hxf3, hxe3⟩
  have F3 : Hid (0 ≤ x3 → (blen b ≤ 1048576 ∧ BSm b) ∧ tlen z ≤ 1048576 ∧ TSm z) := fun h => (hxf3 h).1
  have HV3 : Hid (0 ≤ x3 → x3 + (bW b + tW z : Nat) ≤ x2) := fun h => (hxf3 h).2
  have X3 : Hid (Ex (w.alloc (.cells #[.string nm, .slice a1 ps.length k1, .slice a2 (blen b) k2, .slice a3 (tlen z) k3] 36)) w3) := X2.out.trans hxe3
  have hr3 : x3 ≤ l := by omega
  clear hxf3 hxe3
  clear c0 c1 c2 c3
  obtain ⟨c0, c1, c2, c3⟩ := C.out w3 X3.out
  by_cases hx3 : x3 < 0
  · go_wp2_with fail
    go_ret
    exact ⟨-1, rfl, by omega, by omega, fun h => by omega, (N.out.trans X3.out)⟩
  go_wp2_with fail
  go_ret
  exact ⟨x3, rfl, by omega, by omega, fun _ => ⟨⟨F2.out (by omega), F3.out (by omega)⟩, by have v1 := HV1.out; have v2 := HV2.out (by omega); have v3 := HV3.out (by omega); omega⟩, (N.out.trans X3.out)⟩

set_option maxRecDepth 100000 in
set_option maxHeartbeats 2000000 in
theorem szPureS_by (f : List PM) (a : Option Addr) (c : Nat) (l : Int) (w : World) (hlen : f.length ≤ 9223372036854775807) (h0 : 0 ≤ l) (h1 : l ≤ 1048576) (hT : QA w 0 f a)
    (hK : ∀ j, j < f.length → ∀ (a1 : Option Addr) (k1 : Nat) (a2 : Option Addr) (k2 : Nat) (a3 : Option Addr) (k3 : Nat) (m : Int) (w' : World), Ex w w' → 0 ≤ m → m ≤ 1048576 → XA w' 0 (f.getD j pm0).params a1 → BA w' 0 (f.getD j pm0).binds a2 → MA w' 0 (f.getD j pm0).says a3 → Calls Tryd.prog 9 #[.agg #[.string (f.getD j pm0).name, .slice a1 (f.getD j pm0).params.length k1, .slice a2 (blen (f.getD j pm0).binds) k2, .slice a3 (tlen (f.getD j pm0).says) k3], .int .i64 m] w' (SzP (qWk f j) (PSk (f.getD j pm0)) m w')) :
    Calls Tryd.prog 4 #[.slice a (f.length) c, .int .i64 l] w (SzP (qW f) (f.length ≤ 1048576 ∧ PSkTo f f.length) l w) := by
  have T : Hid (∀ w', Ex w w' → QA w' 0 f a) := fun _ h => QA_below hT h
  have I : Hid _ := hK
  clear hT hK
  by_cases hneg : l - f.length < 0
  · go_enter Tryd.func4, Tryd.ntmps4
    go_wp2_with fail
    go_ret
    exact ⟨-1, rfl, by omega, by omega, fun h => by omega, Ex.refl _⟩
  · go_enter Tryd.func4, Tryd.ntmps4
    go_wp2_with fail
    go_loopw [1, 5] (fun lv i wr => ∃ (k : Nat) (x : Int), k ≤ f.length ∧ i = .int .i64 k ∧ lv = .int .i64 x ∧ 0 ≤ x ∧ x + (f.length + sumN (qWk f) k : Nat) ≤ l ∧ PSkTo f k ∧ Ex w wr) (fun _ i _ => f.length - (intOf i).toNat)
    case atStart => exact ⟨0, l - f.length, Nat.zero_le _, rfl, rfl, by omega, by simp only [sumN]; omega, fun j hj => by omega, Ex.refl _⟩
    case round =>
      obtain ⟨j, x, hk, rfl, rfl, hx0, hxl, hsm, hx⟩ := hrel
      have ST : Hid (PSkTo f j) := hsm
      have HX : Hid (x + (f.length + sumN (qWk f) j : Nat) ≤ l) := hxl
      have hxm : x ≤ l := by omega
      clear hxl
      have X : Hid (Ex w wr) := hx
      clear hsm hx
      by_cases hlt : j < f.length
      · obtain ⟨b, o, rfl, _, hbs, hk⟩ := QA_at (T.out wr X.out) (by omega)
        obtain ⟨b0, ⟨a1, k1, b1, hnc, x1⟩, ⟨a2, k2, b2, x2⟩, ⟨a3, k3, b3, x3⟩⟩ := hk j hlt
        have HI : Hid _ := I.out j hlt a1 k1 a2 k2 a3 k3 x wr X.out hx0 (by omega) x1 x2 x3
        clear hk hnc x1 x2 x3
        obtain ⟨g, hg⟩ : ∃ g, f.getD j pm0 = g := ⟨_, rfl⟩
        rw [hg] at b0 b1 b2 b3 HI
        have HG : Hid (f.getD j pm0 = g) := hg
        clear hg
        obtain ⟨gn, gp, gb, gs⟩ := g
        dsimp only at b0 b1 b2 b3 HI
        go_wp2_with fail
        refine Calls.mono HI.out ?_
        rintro e w1 ⟨y, rfl, hy0, hy1, hyf, hb1⟩
        have YF : Hid (0 ≤ y → PSk ⟨gn, gp, gb, gs⟩) := fun h => (hyf h).1
        have YW : Hid (0 ≤ y → y + (qWk f j : Nat) ≤ x) := fun h => (hyf h).2
        have X1 : Hid (Ex w w1) := X.out.trans hb1
        clear hyf hb1 HI
        by_cases hy : y < 0
        · go_wp2_with fail
          go_ret
          exact ⟨-1, rfl, by omega, by omega, fun h => by omega, X1.out⟩
        · have HS : Hid (PSkTo f (j + 1)) := fun i hi => by
            by_cases hj' : i < j
            · exact ST.out i hj'
            · have e : i = j := by omega
              subst e
              rw [HG.out]; exact YF.out (by omega)
          have HX2 : Hid (y + (f.length + sumN (qWk f) (j + 1) : Nat) ≤ l) := by
            have q1 := HX.out
            have q2 := YW.out (by omega)
            show _ ≤ _
            simp only [sumN]
            omega
          go_wp2_with fail
          go_roundw
          case rel => exact ⟨j + 1, y, by omega, by go_num, rfl, by omega, HX2.out, HS.out, X1.out⟩
          case measure => simp [intOf]; omega
      · have hjl : j = f.length := by omega
        have HS : Hid _ := id (hjl ▸ ST.out)
        have HX2 : Hid (x + (qW f : Nat) ≤ l) := by
          have q1 := HX.out
          rw [hjl] at q1
          show _ ≤ _
          rw [qW_sum]
          exact q1
        clear hjl
        go_wp2_with fail
        go_ret
        exact ⟨x, rfl, by omega, by omega, fun _ => ⟨⟨by omega, HS.out⟩, HX2.out⟩, X.out⟩

theorem szPureS_any (f : List PM) (a : Option Addr) (c : Nat) (l : Int) (w : World) (hlen : f.length ≤ 9223372036854775807) (hlm : ∀ j, j < f.length → PLm (f.getD j pm0)) (h0 : 0 ≤ l) (h1 : l ≤ 1048576) (hT : QA w 0 f a) :
    Calls Tryd.prog 4 #[.slice a f.length c, .int .i64 l] w (SzP (qW f) (f.length ≤ 1048576 ∧ PSkTo f f.length) l w) := by
  refine szPureS_by f a c l w hlen h0 h1 hT fun j hj a1 k1 a2 k2 a3 k3 m w' _ hm0 hm1 y1 y2 y3 => ?_
  obtain ⟨g1, g2, g3, g4, g5, g6, g7⟩ := hlm j hj
  exact szPure_by _ _ a1 k1 _ a2 k2 _ a3 k3 m w' g1 g2 g3 y1 (fun m4 w4 hx4 h4 h5 => szBody_all _ _ a2 k2 _ a3 k3 m4 w4 (Nat.lt_succ_self _) g4 g5 g6 g7 h4 h5 (BA_below y2 hx4) (MA_below y3 hx4)) hm0 hm1

end Go.Proofs.YtgpdnoghlommeaaDoor
