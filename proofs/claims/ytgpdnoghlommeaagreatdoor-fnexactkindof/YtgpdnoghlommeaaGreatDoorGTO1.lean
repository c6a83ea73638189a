/- Walks: bindings, bodies and functions counted by the exact laws. Walks: texts and terms of the laws turned into the program's. -/
import Derived.Test.YtgpdnoghlommeaaGreatDoorGE1
import Derived.Test.YtgpdnoghlommeaaGreatDoorGBD3
import Derived.Test.YtgpdnoghlommeaaGreatDoorGTO0
namespace Go.Proofs.YtgpdnoghlommeaaGreatDoor

open Go.RowKit Go.Deep

attribute [local go_sem ↓] Go.wp_at_zero Go.wp_at_succ

/-- All lists and names are of a length that is one. -/
def BLm : BD → Prop
  | .nil => True
  | .node _ _ _ _ .nil => True
  | .node _ _ (_, ns, fn, ts, tz, ez) tb (.node _ _ _ eb r) => ns.length ≤ 9223372036854775807 ∧ XLm ns ∧ fn.size ≤ 9223372036854775807 ∧ tlen ts ≤ 9223372036854775807 ∧ TLm ts ∧ blen tb ≤ 9223372036854775807 ∧ BLm tb ∧ tlen tz ≤ 9223372036854775807 ∧ TLm tz ∧ blen eb ≤ 9223372036854775807 ∧ BLm eb ∧ tlen ez ≤ 9223372036854775807 ∧ TLm ez ∧ BLm r
theorem BLm_at : ∀ {f : BD}, BLm f → ∀ i, i < blen f → (bnames f i).length ≤ 9223372036854775807 ∧ XLm (bnames f i) ∧ (bfn f i).size ≤ 9223372036854775807 ∧ tlen (bterms f i) ≤ 9223372036854775807 ∧ TLm (bterms f i) ∧ blen (bthen f i) ≤ 9223372036854775807 ∧ BLm (bthen f i) ∧ tlen (btsay f i) ≤ 9223372036854775807 ∧ TLm (btsay f i) ∧ blen (belse f i) ≤ 9223372036854775807 ∧ BLm (belse f i) ∧ tlen (besay f i) ≤ 9223372036854775807 ∧ TLm (besay f i)
  | .nil, _, i, h => by simp [blen] at h
  | .node _ _ _ _ .nil, _, i, h => by simp [blen] at h
  | .node _ _ (_, _, _, _, _, _) _ (.node _ _ _ _ r), hs, 0, _ => ⟨hs.1, hs.2.1, hs.2.2.1, hs.2.2.2.1, hs.2.2.2.2.1, hs.2.2.2.2.2.1, hs.2.2.2.2.2.2.1, hs.2.2.2.2.2.2.2.1, hs.2.2.2.2.2.2.2.2.1, hs.2.2.2.2.2.2.2.2.2.1, hs.2.2.2.2.2.2.2.2.2.2.1, hs.2.2.2.2.2.2.2.2.2.2.2.1, hs.2.2.2.2.2.2.2.2.2.2.2.2.1⟩
  | .node _ _ (_, _, _, _, _, _) _ (.node _ _ _ _ r), hs, i + 1, h => BLm_at hs.2.2.2.2.2.2.2.2.2.2.2.2.2 i (by simp only [blen] at h; omega)

/-- How much bindings count. -/
def bW : BD → Nat
  | .nil => 0
  | .node _ _ _ _ .nil => 0
  | .node _ _ (_, ns, fn, ts, tz, ez) tb (.node _ _ _ eb r) => 1 + (xW ns + fn.size + tW ts + (bW tb + tW tz) + (bW eb + tW ez)) + bW r
def bWk (f : BD) (j : Nat) : Nat := xW (bnames f j) + (bfn f j).size + tW (bterms f j) + (bW (bthen f j) + tW (btsay f j)) + (bW (belse f j) + tW (besay f j))
theorem bW_sum : ∀ f : BD, bW f = blen f + sumN (bWk f) (blen f)
  | .nil => rfl
  | .node _ _ _ _ .nil => rfl
  | .node a b (k, ns, fn, ts, tz, ez) tb (.node c d q eb r) => by
    have h : sumN (fun i => bWk (.node a b (k, ns, fn, ts, tz, ez) tb (.node c d q eb r)) (i + 1)) (blen r) = sumN (bWk r) (blen r) := sumN_eq _ fun i _ => rfl
    rw [blen, sumN_shift, h, bW, bW_sum r]
    show _ = _ + ((xW ns + fn.size + tW ts + (bW tb + tW tz) + (bW eb + tW ez)) + _)
    omega

def BSmTo (f : BD) (k : Nat) : Prop := ∀ j, j < k → (bnames f j).length ≤ 1048576 ∧ (tlen (bterms f j) ≤ 1048576 ∧ TSm (bterms f j)) ∧ ((blen (bthen f j) ≤ 1048576 ∧ BSm (bthen f j)) ∧ tlen (btsay f j) ≤ 1048576 ∧ TSm (btsay f j)) ∧ ((blen (belse f j) ≤ 1048576 ∧ BSm (belse f j)) ∧ tlen (besay f j) ≤ 1048576 ∧ TSm (besay f j))
theorem BSm_of : ∀ {f : BD}, BSmTo f (blen f) → BSm f
  | .nil, _ => trivial
  | .node _ _ _ _ .nil, _ => trivial
  | .node _ _ (_, ns, fn, ts, tz, ez) tb (.node _ _ _ eb r), h => by
    obtain ⟨h1, ⟨h2, h3⟩, ⟨⟨h4, h5⟩, h6, h7⟩, ⟨h8, h9⟩, ha, hb⟩ := h 0 (by simp [blen])
    simp only [bnames, bterms, bthen, btsay, belse, besay] at h1 h2 h3 h4 h5 h6 h7 h8 h9 ha hb
    exact ⟨by omega, by omega, h3, by omega, h5, by omega, h7, by omega, h9, by omega, hb, BSm_of fun j hj => h (j + 1) (by simp only [blen]; omega)⟩

set_option maxRecDepth 100000 in
set_option maxHeartbeats 2000000 in
theorem szBindS_by (f : BD) (a : Option Addr) (c : Nat) (l : Int) (w : World) (hlen : blen f ≤ 9223372036854775807) (h0 : 0 ≤ l) (h1 : l ≤ 1048576) (hT : BA w 0 f a)
    (hK : ∀ j, j < blen f → ∀ (a1 : Option Addr) (k1 : Nat) (a3 : Option Addr) (k3 : Nat) (a4 : Option Addr) (k4 : Nat) (a5 : Option Addr) (k5 : Nat) (a6 : Option Addr) (k6 : Nat) (a7 : Option Addr) (k7 : Nat) (m : Int) (w' : World), Ex w w' → 0 ≤ m → m ≤ 1048576 → XA w' 0 (bnames f j) a1 → MA w' 0 (bterms f j) a3 → BA w' 0 (bthen f j) a4 → MA w' 0 (btsay f j) a5 → BA w' 0 (belse f j) a6 → MA w' 0 (besay f j) a7 → Calls Tryz.prog 102 #[.agg #[.int .i64 (bkind f j), .slice a1 (bnames f j).length k1, .string (bfn f j), .slice a3 (tlen (bterms f j)) k3, .slice a4 (blen (bthen f j)) k4, .slice a5 (tlen (btsay f j)) k5, .slice a6 (blen (belse f j)) k6, .slice a7 (tlen (besay f j)) k7], .int .i64 m] w' (SzP (bWk f j) ((bnames f j).length ≤ 1048576 ∧ (tlen (bterms f j) ≤ 1048576 ∧ TSm (bterms f j)) ∧ ((blen (bthen f j) ≤ 1048576 ∧ BSm (bthen f j)) ∧ tlen (btsay f j) ≤ 1048576 ∧ TSm (btsay f j)) ∧ ((blen (belse f j) ≤ 1048576 ∧ BSm (belse f j)) ∧ tlen (besay f j) ≤ 1048576 ∧ TSm (besay f j))) m w')) :
    Calls Tryz.prog 73 #[.slice a (blen f) c, .int .i64 l] w (SzP (bW f) (blen f ≤ 1048576 ∧ BSm f) l w) := by
  have T : Hid (∀ w', Ex w w' → BA w' 0 f a) := fun _ h => BA_below hT h
  have I : Hid _ := hK
  clear hT hK
  by_cases hneg : l - blen f < 0
  · go_enter Tryz.func73, Tryz.ntmps73
    go_wp2_with fail
    go_ret
    exact ⟨-1, rfl, by omega, by omega, fun h => by omega, Ex.refl _⟩
  · go_enter Tryz.func73, Tryz.ntmps73
    go_wp2_with fail
    go_loopw [1, 5] (fun lv i wr => ∃ (k : Nat) (x : Int), k ≤ blen f ∧ i = .int .i64 k ∧ lv = .int .i64 x ∧ 0 ≤ x ∧ x + (blen f + sumN (bWk f) k : Nat) ≤ l ∧ BSmTo f k ∧ Ex w wr) (fun _ i _ => blen f - (intOf i).toNat)
    case atStart => exact ⟨0, l - blen f, Nat.zero_le _, rfl, rfl, by omega, by simp only [sumN]; omega, fun j hj => by omega, Ex.refl _⟩
    case round =>
      obtain ⟨j, x, hk, rfl, rfl, hx0, hxl, hsm, hx⟩ := hrel
      have ST : Hid (BSmTo f j) := hsm
      have HX : Hid (x + (blen f + sumN (bWk f) j : Nat) ≤ l) := hxl
      have hxm : x ≤ l := by omega
      clear hxl
      have X : Hid (Ex w wr) := hx
      clear hsm hx
      by_cases hlt : j < blen f
      · obtain ⟨b, o, rfl, _, hbs, hk⟩ := BA_at (T.out wr X.out) (by omega)
        obtain ⟨b0, ⟨a1, k1, b1, hnc, x1⟩, b2, ⟨a3, k3, b3, x3⟩, ⟨a4, k4, b4, x4⟩, ⟨a5, k5, b5, x5⟩, ⟨a6, k6, b6, x6⟩, ⟨a7, k7, b7, x7⟩⟩ := hk j hlt
        have HI : Hid _ := I.out j hlt a1 k1 a3 k3 a4 k4 a5 k5 a6 k6 a7 k7 x wr X.out hx0 (by omega) x1 x3 x4 x5 x6 x7
        clear hk hnc x1 x3 x4 x5 x6 x7
        go_wp2_with fail
        refine Calls.mono HI.out ?_
        rintro e w1 ⟨y, rfl, hy0, hy1, hyf, hb1⟩
        have YF : Hid (0 ≤ y → (bnames f j).length ≤ 1048576 ∧ (tlen (bterms f j) ≤ 1048576 ∧ TSm (bterms f j)) ∧ ((blen (bthen f j) ≤ 1048576 ∧ BSm (bthen f j)) ∧ tlen (btsay f j) ≤ 1048576 ∧ TSm (btsay f j)) ∧ ((blen (belse f j) ≤ 1048576 ∧ BSm (belse f j)) ∧ tlen (besay f j) ≤ 1048576 ∧ TSm (besay f j))) := fun h => (hyf h).1
        have YW : Hid (0 ≤ y → y + (bWk f j : Nat) ≤ x) := fun h => (hyf h).2
        have X1 : Hid (Ex w w1) := X.out.trans hb1
        clear hyf hb1 HI
        by_cases hy : y < 0
        · go_wp2_with fail
          go_ret
          exact ⟨-1, rfl, by omega, by omega, fun h => by omega, X1.out⟩
        · have HS : Hid (BSmTo f (j + 1)) := fun i hi => by
            by_cases hj' : i < j
            · exact ST.out i hj'
            · have e : i = j := by omega
              subst e
              exact YF.out (by omega)
          have HX2 : Hid (y + (blen f + sumN (bWk f) (j + 1) : Nat) ≤ l) := by
            have q1 := HX.out
            have q2 := YW.out (by omega)
            show _ ≤ _
            simp only [sumN]
            omega
          go_wp2_with fail
          go_roundw
          case rel => exact ⟨j + 1, y, by omega, by go_num, rfl, by omega, HX2.out, HS.out, X1.out⟩
          case measure => simp [intOf]; omega
      · have hjl : j = blen f := by omega
        have HS : Hid _ := BSm_of (hjl ▸ ST.out)
        have HX2 : Hid (x + (bW f : Nat) ≤ l) := by
          have q1 := HX.out
          rw [hjl] at q1
          show _ ≤ _
          rw [bW_sum]
          exact q1
        clear hjl
        go_wp2_with fail
        go_ret
        exact ⟨x, rfl, by omega, by omega, fun _ => ⟨⟨by omega, HS.out⟩, HX2.out⟩, X.out⟩

set_option maxRecDepth 100000 in
set_option maxHeartbeats 2000000 in
theorem szBind_by (k : Int) (nm : List ByteArray) (a1 : Option Addr) (k1 : Nat) (fn : ByteArray) (ts : TM) (a3 : Option Addr) (k3 : Nat) (tb : BD) (a4 : Option Addr) (k4 : Nat) (tz : TM) (a5 : Option Addr) (k5 : Nat) (eb : BD) (a6 : Option Addr) (k6 : Nat) (ez : TM) (a7 : Option Addr) (k7 : Nat) (l : Int) (w : World) (hn : nm.length ≤ 9223372036854775807) (hx : XLm nm) (hf : fn.size ≤ 9223372036854775807) (ht : tlen ts ≤ 9223372036854775807) (htl : TLm ts) (hX : XA w 0 nm a1) (hM : MA w 0 ts a3) (hT : ∀ (m : Int) (w' : World), Ex w w' → 0 ≤ m → m ≤ 1048576 → Calls Tryz.prog 48 #[.agg #[.slice a4 (blen tb) k4, .slice a5 (tlen tz) k5], .int .i64 m] w' (SzP (bW tb + tW tz) ((blen tb ≤ 1048576 ∧ BSm tb) ∧ tlen tz ≤ 1048576 ∧ TSm tz) m w')) (hE : ∀ (m : Int) (w' : World), Ex w w' → 0 ≤ m → m ≤ 1048576 → Calls Tryz.prog 48 #[.agg #[.slice a6 (blen eb) k6, .slice a7 (tlen ez) k7], .int .i64 m] w' (SzP (bW eb + tW ez) ((blen eb ≤ 1048576 ∧ BSm eb) ∧ tlen ez ≤ 1048576 ∧ TSm ez) m w')) (h0 : 0 ≤ l) (h1 : l ≤ 1048576) :
    Calls Tryz.prog 102 #[.agg #[.int .i64 k, .slice a1 nm.length k1, .string fn, .slice a3 (tlen ts) k3, .slice a4 (blen tb) k4, .slice a5 (tlen tz) k5, .slice a6 (blen eb) k6, .slice a7 (tlen ez) k7], .int .i64 l] w (SzP (xW nm + fn.size + tW ts + (bW tb + tW tz) + (bW eb + tW ez)) (nm.length ≤ 1048576 ∧ (tlen ts ≤ 1048576 ∧ TSm ts) ∧ ((blen tb ≤ 1048576 ∧ BSm tb) ∧ tlen tz ≤ 1048576 ∧ TSm tz) ∧ ((blen eb ≤ 1048576 ∧ BSm eb) ∧ tlen ez ≤ 1048576 ∧ TSm ez)) l w) := by
  have N : Hid (Ex w (w.alloc (.cells #[.int .i64 k, .slice a1 nm.length k1, .string fn, .slice a3 (tlen ts) k3, .slice a4 (blen tb) k4, .slice a5 (tlen tz) k5, .slice a6 (blen eb) k6, .slice a7 (tlen ez) k7] 159))) := Ex.new _ _
  have C : Hid (∀ w', Ex (w.alloc (.cells #[.int .i64 k, .slice a1 nm.length k1, .string fn, .slice a3 (tlen ts) k3, .slice a4 (blen tb) k4, .slice a5 (tlen tz) k5, .slice a6 (blen eb) k6, .slice a7 (tlen ez) k7] 159)) w' → w'.cell? ⟨w.heap.size, 0, none⟩ = some (.int .i64 k) ∧ w'.cell? ⟨w.heap.size, 1, none⟩ = some (.slice a1 nm.length k1) ∧ w'.cell? ⟨w.heap.size, 2, none⟩ = some (.string fn) ∧ w'.cell? ⟨w.heap.size, 3, none⟩ = some (.slice a3 (tlen ts) k3) ∧ w'.cell? ⟨w.heap.size, 4, none⟩ = some (.slice a4 (blen tb) k4) ∧ w'.cell? ⟨w.heap.size, 5, none⟩ = some (.slice a5 (tlen tz) k5) ∧ w'.cell? ⟨w.heap.size, 6, none⟩ = some (.slice a6 (blen eb) k6) ∧ w'.cell? ⟨w.heap.size, 7, none⟩ = some (.slice a7 (tlen ez) k7)) := fun w' h => ⟨h.at (by simp), h.at (by simp), h.at (by simp), h.at (by simp), h.at (by simp), h.at (by simp), h.at (by simp), h.at (by simp)⟩
  go_enter Tryz.func102, Tryz.ntmps102
  go_wp2_with fail
  refine (szTexts_any nm a1 k1 l _ hn hx (by omega) (by omega) (XA_below hX N.out)).mono ?_
  rintro e w1 ⟨x1, rfl, hxa1, hxb1, hxf1, hxe1⟩
  have F1 : Hid (0 ≤ x1 → nm.length ≤ 1048576) := fun h => (hxf1 h).1
  have HV1 : Hid (0 ≤ x1 → x1 + (xW nm : Nat) ≤ l) := fun h => (hxf1 h).2
  have X1 : Hid (Ex (w.alloc (.cells #[.int .i64 k, .slice a1 nm.length k1, .string fn, .slice a3 (tlen ts) k3, .slice a4 (blen tb) k4, .slice a5 (tlen tz) k5, .slice a6 (blen eb) k6, .slice a7 (tlen ez) k7] 159)) w1) := hxe1
  have hr1 : x1 ≤ l := by omega
  clear hxf1 hxe1
  obtain ⟨c0, c1, c2, c3, c4, c5, c6, c7⟩ := C.out w1 X1.out
  by_cases hx1 : x1 < 0
  · go_wp2_with fail
    go_ret
    exact ⟨-1, rfl, by omega, by omega, fun h => by omega, (N.out.trans X1.out)⟩
  by_cases hb2 : x1 - fn.size < 0
  · go_wp2_with fail
    go_ret
    exact ⟨-1, rfl, by omega, by omega, fun h => by omega, (N.out.trans X1.out)⟩
  obtain ⟨m2, hm2⟩ : ∃ m : Int, m = x1 - fn.size := ⟨_, rfl⟩
  have hp2 : 0 ≤ m2 := by omega
  have HV2 : Hid (m2 + (fn.size : Nat) ≤ x1) := by show _ ≤ _; omega
  have hq2 : m2 ≤ l := by omega
  go_wp2_with fail
  rw [← hm2]
  clear hb2 hm2
  refine (szTermS_any ts a3 k3 m2 _ ht htl (by omega) (by omega) (MA_below hM (N.out.trans X1.out))).mono ?_
  rintro e w3 ⟨x3, rfl, hxa3, hxb3, hxf3, hxe3⟩
  have F3 : Hid (0 ≤ x3 → tlen ts ≤ 1048576 ∧ TSm ts) := fun h => (hxf3 h).1
  have HV3 : Hid (0 ≤ x3 → x3 + (tW ts : Nat) ≤ m2) := fun h => (hxf3 h).2
  have X3 : Hid (Ex (w.alloc (.cells #[.int .i64 k, .slice a1 nm.length k1, .string fn, .slice a3 (tlen ts) k3, .slice a4 (blen tb) k4, .slice a5 (tlen tz) k5, .slice a6 (blen eb) k6, .slice a7 (tlen ez) k7] 159)) w3) := X1.out.trans hxe3
  have hr3 : x3 ≤ l := by omega
  clear hxf3 hxe3
  clear c0 c1 c2 c3 c4 c5 c6 c7
  obtain ⟨c0, c1, c2, c3, c4, c5, c6, c7⟩ := C.out w3 X3.out
  by_cases hx3 : x3 < 0
  · go_wp2_with fail
    go_ret
    exact ⟨-1, rfl, by omega, by omega, fun h => by omega, (N.out.trans X3.out)⟩
  go_wp2_with fail
  refine (hT x3 _ (N.out.trans X3.out) (by omega) (by omega)).mono ?_
  rintro e w4 ⟨x4, rfl, hxa4, hxb4, hxf4, hxe4⟩
  have F4 : Hid (0 ≤ x4 → (blen tb ≤ 1048576 ∧ BSm tb) ∧ tlen tz ≤ 1048576 ∧ TSm tz) := fun h => (hxf4 h).1
  have HV4 : Hid (0 ≤ x4 → x4 + (bW tb + tW tz : Nat) ≤ x3) := fun h => (hxf4 h).2
  have X4 : Hid (Ex (w.alloc (.cells #[.int .i64 k, .slice a1 nm.length k1, .string fn, .slice a3 (tlen ts) k3, .slice a4 (blen tb) k4, .slice a5 (tlen tz) k5, .slice a6 (blen eb) k6, .slice a7 (tlen ez) k7] 159)) w4) := X3.out.trans hxe4
  have hr4 : x4 ≤ l := by omega
  clear hxf4 hxe4
  clear c0 c1 c2 c3 c4 c5 c6 c7
  obtain ⟨c0, c1, c2, c3, c4, c5, c6, c7⟩ := C.out w4 X4.out
  by_cases hx4 : x4 < 0
  · go_wp2_with fail
    go_ret
    exact ⟨-1, rfl, by omega, by omega, fun h => by omega, (N.out.trans X4.out)⟩
  go_wp2_with fail
  refine (hE x4 _ (N.out.trans X4.out) (by omega) (by omega)).mono ?_
  rintro e w5 ⟨x5, rfl, hxa5, hxb5, hxf5, hxe5⟩
  have F5 : Hid (0 ≤ x5 → (blen eb ≤ 1048576 ∧ BSm eb) ∧ tlen ez ≤ 1048576 ∧ TSm ez) := fun h => (hxf5 h).1
  have HV5 : Hid (0 ≤ x5 → x5 + (bW eb + tW ez : Nat) ≤ x4) := fun h => (hxf5 h).2
  have X5 : Hid (Ex (w.alloc (.cells #[.int .i64 k, .slice a1 nm.length k1, .string fn, .slice a3 (tlen ts) k3, .slice a4 (blen tb) k4, .slice a5 (tlen tz) k5, .slice a6 (blen eb) k6, .slice a7 (tlen ez) k7] 159)) w5) := X4.out.trans hxe5
  have hr5 : x5 ≤ l := by omega
  clear hxf5 hxe5
  clear c0 c1 c2 c3 c4 c5 c6 c7
  obtain ⟨c0, c1, c2, c3, c4, c5, c6, c7⟩ := C.out w5 X5.out
  by_cases hx5 : x5 < 0
  · go_wp2_with fail
    go_ret
    exact ⟨-1, rfl, by omega, by omega, fun h => by omega, (N.out.trans X5.out)⟩
  go_wp2_with fail
  go_ret
  exact ⟨x5, rfl, by omega, by omega, fun _ => ⟨⟨F1.out (by omega), F3.out (by omega), F4.out (by omega), F5.out (by omega)⟩, by have v2 := HV2.out; have v1 := HV1.out (by omega); have v3 := HV3.out (by omega); have v4 := HV4.out (by omega); have v5 := HV5.out (by omega); omega⟩, (N.out.trans X5.out)⟩

set_option maxRecDepth 100000 in
set_option maxHeartbeats 2000000 in
theorem szBody_by (b : BD) (ba : Option Addr) (bc : Nat) (z : TM) (za : Option Addr) (zc : Nat) (l : Int) (w : World) (hz : tlen z ≤ 9223372036854775807) (hzl : TLm z) (hM : MA w 0 z za) (hB : ∀ (m : Int) (w' : World), Ex w w' → 0 ≤ m → m ≤ 1048576 → Calls Tryz.prog 73 #[.slice ba (blen b) bc, .int .i64 m] w' (SzP (bW b) (blen b ≤ 1048576 ∧ BSm b) m w')) (h0 : 0 ≤ l) (h1 : l ≤ 1048576) :
    Calls Tryz.prog 48 #[.agg #[.slice ba (blen b) bc, .slice za (tlen z) zc], .int .i64 l] w (SzP (bW b + tW z) ((blen b ≤ 1048576 ∧ BSm b) ∧ tlen z ≤ 1048576 ∧ TSm z) l w) := by
  have N : Hid (Ex w (w.alloc (.cells #[.slice ba (blen b) bc, .slice za (tlen z) zc] 44))) := Ex.new _ _
  have C : Hid (∀ w', Ex (w.alloc (.cells #[.slice ba (blen b) bc, .slice za (tlen z) zc] 44)) w' → w'.cell? ⟨w.heap.size, 0, none⟩ = some (.slice ba (blen b) bc) ∧ w'.cell? ⟨w.heap.size, 1, none⟩ = some (.slice za (tlen z) zc)) := fun w' h => ⟨h.at (by simp), h.at (by simp)⟩
  go_enter Tryz.func48, Tryz.ntmps48
  go_wp2_with fail
  refine (hB l _ N.out (by omega) (by omega)).mono ?_
  rintro e w1 ⟨x1, rfl, hxa1, hxb1, hxf1, hxe1⟩
  have F1 : Hid (0 ≤ x1 → blen b ≤ 1048576 ∧ BSm b) := fun h => (hxf1 h).1
  have HV1 : Hid (0 ≤ x1 → x1 + (bW b : Nat) ≤ l) := fun h => (hxf1 h).2
  have X1 : Hid (Ex (w.alloc (.cells #[.slice ba (blen b) bc, .slice za (tlen z) zc] 44)) w1) := hxe1
  have hr1 : x1 ≤ l := by omega
  clear hxf1 hxe1
  obtain ⟨c0, c1⟩ := C.out w1 X1.out
  by_cases hx1 : x1 < 0
  · go_wp2_with fail
    go_ret
    exact ⟨-1, rfl, by omega, by omega, fun h => by omega, (N.out.trans X1.out)⟩
  go_wp2_with fail
  refine (szTermS_any z za zc x1 _ hz hzl (by omega) (by omega) (MA_below hM (N.out.trans X1.out))).mono ?_
  rintro e w2 ⟨x2, rfl, hxa2, hxb2, hxf2, hxe2⟩
  have F2 : Hid (0 ≤ x2 → tlen z ≤ 1048576 ∧ TSm z) := fun h => (hxf2 h).1
  have HV2 : Hid (0 ≤ x2 → x2 + (tW z : Nat) ≤ x1) := fun h => (hxf2 h).2
  have X2 : Hid (Ex (w.alloc (.cells #[.slice ba (blen b) bc, .slice za (tlen z) zc] 44)) w2) := X1.out.trans hxe2
  have hr2 : x2 ≤ l := by omega
  clear hxf2 hxe2
  clear c0 c1
  obtain ⟨c0, c1⟩ := C.out w2 X2.out
  by_cases hx2 : x2 < 0
  · go_wp2_with fail
    go_ret
    exact ⟨-1, rfl, by omega, by omega, fun h => by omega, (N.out.trans X2.out)⟩
  go_wp2_with fail
  go_ret
  exact ⟨x2, rfl, by omega, by omega, fun _ => ⟨⟨F1.out (by omega), F2.out (by omega)⟩, by have v1 := HV1.out (by omega); have v2 := HV2.out (by omega); omega⟩, (N.out.trans X2.out)⟩

theorem szBody_all : ∀ (d : Nat) (b : BD) (ba : Option Addr) (bc : Nat) (z : TM) (za : Option Addr) (zc : Nat) (l : Int) (w : World), bdep b < d → blen b ≤ 9223372036854775807 → BLm b → tlen z ≤ 9223372036854775807 → TLm z → 0 ≤ l → l ≤ 1048576 → BA w 0 b ba → MA w 0 z za →
    Calls Tryz.prog 48 #[.agg #[.slice ba (blen b) bc, .slice za (tlen z) zc], .int .i64 l] w (SzP (bW b + tW z) ((blen b ≤ 1048576 ∧ BSm b) ∧ tlen z ≤ 1048576 ∧ TSm z) l w) := by
  intro d
  induction d with
  | zero => intro b ba bc z za zc l w hd; omega
  | succ d ih =>
    intro b ba bc z za zc l w hd hbl hbm hzl hzm h0 h1 hB hM
    refine szBody_by b ba bc z za zc l w hzl hzm hM (fun m w' hx hm0 hm1 => ?_) h0 h1
    refine szBindS_by b ba bc m w' hbl hm0 hm1 (BA_below hB hx) fun j hj a1 k1 a3 k3 a4 k4 a5 k5 a6 k6 a7 k7 m2 w2 hx2 hm2 hm3 y1 y3 y4 y5 y6 y7 => ?_
    obtain ⟨g1, g2, g3, g4, g5, g6, g7, g8, g9, ga, gb, gc, gd⟩ := BLm_at hbm j hj
    have hdj := bdep_kid b j hj
    exact szBind_by _ _ a1 k1 _ _ a3 k3 _ a4 k4 _ a5 k5 _ a6 k6 _ a7 k7 m2 w2 g1 g2 g3 g4 g5 y1 y3
      (fun m4 w4 hx4 h4 h5 => ih _ a4 k4 _ a5 k5 m4 w4 (by omega) g6 g7 g8 g9 h4 h5 (BA_below y4 hx4) (MA_below y5 hx4))
      (fun m4 w4 hx4 h4 h5 => ih _ a6 k6 _ a7 k7 m4 w4 (by omega) ga gb gc gd h4 h5 (BA_below y6 hx4) (MA_below y7 hx4)) hm2 hm3

/-- All lists and names of a function are of a length that is one. -/
def PLm (f : PM) : Prop := f.name.size ≤ 9223372036854775807 ∧ f.params.length ≤ 9223372036854775807 ∧ XLm f.params ∧ blen f.binds ≤ 9223372036854775807 ∧ BLm f.binds ∧ tlen f.says ≤ 9223372036854775807 ∧ TLm f.says
/-- All lists are of a length that can be counted. -/
def PSk (f : PM) : Prop := f.params.length ≤ 1048576 ∧ (blen f.binds ≤ 1048576 ∧ BSm f.binds) ∧ tlen f.says ≤ 1048576 ∧ TSm f.says
/-- How much a function counts, and how much functions. -/
def pW (f : PM) : Nat := f.name.size + xW f.params + (bW f.binds + tW f.says)
def qWk (l : List PM) (j : Nat) : Nat := pW (l.getD j pm0)
def qW (l : List PM) : Nat := l.length + sumN (qWk l) l.length
theorem qW_sum (l : List PM) : qW l = l.length + sumN (qWk l) l.length := rfl
def PSkTo (l : List PM) (k : Nat) : Prop := ∀ j, j < k → PSk (l.getD j pm0)

set_option maxRecDepth 100000 in
set_option maxHeartbeats 2000000 in
theorem szPure_by (nm : ByteArray) (ps : List ByteArray) (a1 : Option Addr) (k1 : Nat) (b : BD) (a2 : Option Addr) (k2 : Nat) (z : TM) (a3 : Option Addr) (k3 : Nat) (l : Int) (w : World) (hn : nm.size ≤ 9223372036854775807) (hp : ps.length ≤ 9223372036854775807) (hx : XLm ps) (hX : XA w 0 ps a1) (hB : ∀ (m : Int) (w' : World), Ex w w' → 0 ≤ m → m ≤ 1048576 → Calls Tryz.prog 48 #[.agg #[.slice a2 (blen b) k2, .slice a3 (tlen z) k3], .int .i64 m] w' (SzP (bW b + tW z) ((blen b ≤ 1048576 ∧ BSm b) ∧ tlen z ≤ 1048576 ∧ TSm z) m w')) (h0 : 0 ≤ l) (h1 : l ≤ 1048576) :
    Calls Tryz.prog 19 #[.agg #[.string nm, .slice a1 ps.length k1, .slice a2 (blen b) k2, .slice a3 (tlen z) k3], .int .i64 l] w (SzP (nm.size + xW ps + (bW b + tW z)) (ps.length ≤ 1048576 ∧ (blen b ≤ 1048576 ∧ BSm b) ∧ tlen z ≤ 1048576 ∧ TSm z) l w) := by
  have N : Hid (Ex w (w.alloc (.cells #[.string nm, .slice a1 ps.length k1, .slice a2 (blen b) k2, .slice a3 (tlen z) k3] 46))) := Ex.new _ _
  have C : Hid (∀ w', Ex (w.alloc (.cells #[.string nm, .slice a1 ps.length k1, .slice a2 (blen b) k2, .slice a3 (tlen z) k3] 46)) w' → w'.cell? ⟨w.heap.size, 0, none⟩ = some (.string nm) ∧ w'.cell? ⟨w.heap.size, 1, none⟩ = some (.slice a1 ps.length k1) ∧ w'.cell? ⟨w.heap.size, 2, none⟩ = some (.slice a2 (blen b) k2) ∧ w'.cell? ⟨w.heap.size, 3, none⟩ = some (.slice a3 (tlen z) k3)) := fun w' h => ⟨h.at (by simp), h.at (by simp), h.at (by simp), h.at (by simp)⟩
  by_cases hb1 : l - nm.size < 0
  · go_enter Tryz.func19, Tryz.ntmps19
    go_wp2_with fail
    go_ret
    exact ⟨-1, rfl, by omega, by omega, fun h => by omega, N.out⟩
  obtain ⟨m1, hm1⟩ : ∃ m : Int, m = l - nm.size := ⟨_, rfl⟩
  have hp1 : 0 ≤ m1 := by omega
  have HV1 : Hid (m1 + (nm.size : Nat) ≤ l) := by show _ ≤ _; omega
  have hq1 : m1 ≤ l := by omega
  go_enter Tryz.func19, Tryz.ntmps19
  go_wp2_with fail
  rw [← hm1]
  clear hb1 hm1
  refine (szTexts_any ps a1 k1 m1 _ hp hx (by omega) (by omega) (XA_below hX N.out)).mono ?_
  rintro e w2 ⟨x2, rfl, hxa2, hxb2, hxf2, hxe2⟩
  have F2 : Hid (0 ≤ x2 → ps.length ≤ 1048576) := fun h => (hxf2 h).1
  have HV2 : Hid (0 ≤ x2 → x2 + (xW ps : Nat) ≤ m1) := fun h => (hxf2 h).2
  have X2 : Hid (Ex (w.alloc (.cells #[.string nm, .slice a1 ps.length k1, .slice a2 (blen b) k2, .slice a3 (tlen z) k3] 46)) w2) := hxe2
  have hr2 : x2 ≤ l := by omega
  clear hxf2 hxe2
  obtain ⟨c0, c1, c2, c3⟩ := C.out w2 X2.out
  by_cases hx2 : x2 < 0
  · go_wp2_with fail
    go_ret
    exact ⟨-1, rfl, by omega, by omega, fun h => by omega, (N.out.trans X2.out)⟩
  go_wp2_with fail
  refine (hB x2 _ (N.out.trans X2.out) (by omega) (by omega)).mono ?_
  rintro e w3 ⟨x3, rfl, hxa3, hxb3, hxf3, hxe3⟩
  have F3 : Hid (0 ≤ x3 → (blen b ≤ 1048576 ∧ BSm b) ∧ tlen z ≤ 1048576 ∧ TSm z) := fun h => (hxf3 h).1
  have HV3 : Hid (0 ≤ x3 → x3 + (bW b + tW z : Nat) ≤ x2) := fun h => (hxf3 h).2
  have X3 : Hid (Ex (w.alloc (.cells #[.string nm, .slice a1 ps.length k1, .slice a2 (blen b) k2, .slice a3 (tlen z) k3] 46)) w3) := X2.out.trans hxe3
  have hr3 : x3 ≤ l := by omega
  clear hxf3 hxe3
  clear c0 c1 c2 c3
  obtain ⟨c0, c1, c2, c3⟩ := C.out w3 X3.out
  by_cases hx3 : x3 < 0
  · go_wp2_with fail
    go_ret
    exact ⟨-1, rfl, by omega, by omega, fun h => by omega, (N.out.trans X3.out)⟩
  go_wp2_with fail
  go_ret
  exact ⟨x3, rfl, by omega, by omega, fun _ => ⟨⟨F2.out (by omega), F3.out (by omega)⟩, by have v1 := HV1.out; have v2 := HV2.out (by omega); have v3 := HV3.out (by omega); omega⟩, (N.out.trans X3.out)⟩

set_option maxRecDepth 100000 in
set_option maxHeartbeats 2000000 in
theorem szPureS_by (f : List PM) (a : Option Addr) (c : Nat) (l : Int) (w : World) (hlen : f.length ≤ 9223372036854775807) (h0 : 0 ≤ l) (h1 : l ≤ 1048576) (hT : QA w 0 f a)
    (hK : ∀ j, j < f.length → ∀ (a1 : Option Addr) (k1 : Nat) (a2 : Option Addr) (k2 : Nat) (a3 : Option Addr) (k3 : Nat) (m : Int) (w' : World), Ex w w' → 0 ≤ m → m ≤ 1048576 → XA w' 0 (f.getD j pm0).params a1 → BA w' 0 (f.getD j pm0).binds a2 → MA w' 0 (f.getD j pm0).says a3 → Calls Tryz.prog 19 #[.agg #[.string (f.getD j pm0).name, .slice a1 (f.getD j pm0).params.length k1, .slice a2 (blen (f.getD j pm0).binds) k2, .slice a3 (tlen (f.getD j pm0).says) k3], .int .i64 m] w' (SzP (qWk f j) (PSk (f.getD j pm0)) m w')) :
    Calls Tryz.prog 5 #[.slice a (f.length) c, .int .i64 l] w (SzP (qW f) (f.length ≤ 1048576 ∧ PSkTo f f.length) l w) := by
  have T : Hid (∀ w', Ex w w' → QA w' 0 f a) := fun _ h => QA_below hT h
  have I : Hid _ := hK
  clear hT hK
  by_cases hneg : l - f.length < 0
  · go_enter Tryz.func5, Tryz.ntmps5
    go_wp2_with fail
    go_ret
    exact ⟨-1, rfl, by omega, by omega, fun h => by omega, Ex.refl _⟩
  · go_enter Tryz.func5, Tryz.ntmps5
    go_wp2_with fail
    go_loopw [1, 5] (fun lv i wr => ∃ (k : Nat) (x : Int), k ≤ f.length ∧ i = .int .i64 k ∧ lv = .int .i64 x ∧ 0 ≤ x ∧ x + (f.length + sumN (qWk f) k : Nat) ≤ l ∧ PSkTo f k ∧ Ex w wr) (fun _ i _ => f.length - (intOf i).toNat)
    case atStart => exact ⟨0, l - f.length, Nat.zero_le _, rfl, rfl, by omega, by simp only [sumN]; omega, fun j hj => by omega, Ex.refl _⟩
    case round =>
      obtain ⟨j, x, hk, rfl, rfl, hx0, hxl, hsm, hx⟩ := hrel
      have ST : Hid (PSkTo f j) := hsm
      have HX : Hid (x + (f.length + sumN (qWk f) j : Nat) ≤ l) := hxl
      have hxm : x ≤ l := by omega
      clear hxl
      have X : Hid (Ex w wr) := hx
      clear hsm hx
      by_cases hlt : j < f.length
      · obtain ⟨b, o, rfl, _, hbs, hk⟩ := QA_at (T.out wr X.out) (by omega)
        obtain ⟨b0, ⟨a1, k1, b1, hnc, x1⟩, ⟨a2, k2, b2, x2⟩, ⟨a3, k3, b3, x3⟩⟩ := hk j hlt
        have HI : Hid _ := I.out j hlt a1 k1 a2 k2 a3 k3 x wr X.out hx0 (by omega) x1 x2 x3
        clear hk hnc x1 x2 x3
        obtain ⟨g, hg⟩ : ∃ g, f.getD j pm0 = g := ⟨_, rfl⟩
        rw [hg] at b0 b1 b2 b3 HI
        have HG : Hid (f.getD j pm0 = g) := hg
        clear hg
        obtain ⟨gn, gp, gb, gs⟩ := g
        dsimp only at b0 b1 b2 b3 HI
        go_wp2_with fail
        refine Calls.mono HI.out ?_
        rintro e w1 ⟨y, rfl, hy0, hy1, hyf, hb1⟩
        have YF : Hid (0 ≤ y → PSk ⟨gn, gp, gb, gs⟩) := fun h => (hyf h).1
        have YW : Hid (0 ≤ y → y + (qWk f j : Nat) ≤ x) := fun h => (hyf h).2
        have X1 : Hid (Ex w w1) := X.out.trans hb1
        clear hyf hb1 HI
        by_cases hy : y < 0
        · go_wp2_with fail
          go_ret
          exact ⟨-1, rfl, by omega, by omega, fun h => by omega, X1.out⟩
        · have HS : Hid (PSkTo f (j + 1)) := fun i hi => by
            by_cases hj' : i < j
            · exact ST.out i hj'
            · have e : i = j := by omega
              subst e
              rw [HG.out]; exact YF.out (by omega)
          have HX2 : Hid (y + (f.length + sumN (qWk f) (j + 1) : Nat) ≤ l) := by
            have q1 := HX.out
            have q2 := YW.out (by omega)
            show _ ≤ _
            simp only [sumN]
            omega
          go_wp2_with fail
          go_roundw
          case rel => exact ⟨j + 1, y, by omega, by go_num, rfl, by omega, HX2.out, HS.out, X1.out⟩
          case measure => simp [intOf]; omega
      · have hjl : j = f.length := by omega
        have HS : Hid _ := id (hjl ▸ ST.out)
        have HX2 : Hid (x + (qW f : Nat) ≤ l) := by
          have q1 := HX.out
          rw [hjl] at q1
          show _ ≤ _
          rw [qW_sum]
          exact q1
        clear hjl
        go_wp2_with fail
        go_ret
        exact ⟨x, rfl, by omega, by omega, fun _ => ⟨⟨by omega, HS.out⟩, HX2.out⟩, X.out⟩

theorem szPureS_any (f : List PM) (a : Option Addr) (c : Nat) (l : Int) (w : World) (hlen : f.length ≤ 9223372036854775807) (hlm : ∀ j, j < f.length → PLm (f.getD j pm0)) (h0 : 0 ≤ l) (h1 : l ≤ 1048576) (hT : QA w 0 f a) :
    Calls Tryz.prog 5 #[.slice a f.length c, .int .i64 l] w (SzP (qW f) (f.length ≤ 1048576 ∧ PSkTo f f.length) l w) := by
  refine szPureS_by f a c l w hlen h0 h1 hT fun j hj a1 k1 a2 k2 a3 k3 m w' _ hm0 hm1 y1 y2 y3 => ?_
  obtain ⟨g1, g2, g3, g4, g5, g6, g7⟩ := hlm j hj
  exact szPure_by _ _ a1 k1 _ a2 k2 _ a3 k3 m w' g1 g2 g3 y1 (fun m4 w4 hx4 h4 h5 => szBody_all _ _ a2 k2 _ a3 k3 m4 w4 (Nat.lt_succ_self _) g4 g5 g6 g7 h4 h5 (BA_below y2 hx4) (MA_below y3 hx4)) hm0 hm1

end Go.Proofs.YtgpdnoghlommeaaGreatDoor

namespace Go.Proofs.YtgpdnoghlommeaaGreatDoor

open Go.RowKit Go.Deep

attribute [local go_sem ↓] Go.wp_at_zero Go.wp_at_succ

theorem toInts_any (p : List Int) (a : Option Addr) (c : Nat) (w : World) (hl : p.length ≤ 1000000000) (hP : PA w 0 p a) :
    Calls Tryz.prog 133 #[.slice a p.length c] w fun e w' => ∃ a', e = .returned (.slice a' p.length p.length) ∧ PA w' w.heap.size p a' ∧ Ex w w' :=
  (toIntS_any p a c 0 w hl hP).mono fun _ _ ⟨h1, h2, h3⟩ => ⟨_, h1, h2.pa (Nat.le_refl _), h3⟩

theorem Tryz.info9 : (Tryz.prog.info? 9).map (fun i => (i.zero, i.size, i.bytes)) = some (some (.string ⟨#[]⟩), 1, 16) := by kernel_rfl

set_option maxRecDepth 100000 in
set_option maxHeartbeats 2000000 in
theorem toTexts_any (xs : List ByteArray) (a : Option Addr) (c : Nat) (w : World) (hl : xs.length ≤ 1000000000) (hP : XA w 0 xs a) :
    Calls Tryz.prog 55 #[.slice a xs.length c] w fun e w' => ∃ a', e = .returned (.slice a' xs.length xs.length) ∧ XA w' w.heap.size xs a' ∧ Ex w w' := by
  have P : Hid (∀ w', Ex w w' → XA w' 0 xs a) := fun _ h => XA_below hP h
  clear hP
  obtain ⟨i0, hi, hz0, hz1, hz2⟩ := info_parts Tryz.info9
  have hmk : ∀ w : World, (Instr.makeSlice 40 (.int .i64 (xs.length : Int)) (.int .i64 (xs.length : Int))).run Tryz.prog w = .ok (.slice (some ⟨w.heap.size, 0, none⟩) xs.length xs.length) (w.alloc (.cells (madeCells #[.string ⟨#[]⟩] xs.length) 9)) := fun w => by
    have := run_make (P := Tryz.prog) w 40 9 i0 _ Tryz.underlying40 hi hz0 .i64 .i64 (xs.length : Int) (xs.length : Int) (by omega) (by omega) (by rw [hz2]; omega) (by omega)
    rw [hz1] at this
    simpa [Value.cells] using this
  clear hz0 hz1 hz2 hi
  go_enter Tryz.func55, Tryz.ntmps55
  go_wp2_with fail
  go_loopw [4] (fun i wr => ∃ (k : Nat) (cur : Array Value), k ≤ xs.length ∧ i = .int .i64 k ∧ Ex w wr ∧ wr.heap[w.heap.size]? = some (.cells cur 9 (0, 0)) ∧ cur.size = xs.length ∧ (∀ j, j < k → cur[j]? = some (.string (xs.getD j ⟨#[]⟩)))) (fun i _ => xs.length - (intOf i).toNat)
  case atStart => exact ⟨0, madeCells #[.string ⟨#[]⟩] xs.length, Nat.zero_le _, rfl, Ex.new _ _, heap_alloc_new _ _, size_madeCells _ _, fun j hj => by omega⟩
  case round =>
    obtain ⟨k, cur, hk, rfl, hx, hob, hcs, hkids⟩ := hrel
    have KI : Hid _ := hkids
    have HCS : Hid (cur.size = xs.length) := hcs
    clear hkids hcs
    by_cases hlt : k < xs.length
    · obtain ⟨b, o, rfl, hbs, _, hkk⟩ := XA_at (P.out wr hx) (by omega)
      have hc1 := hkk k hlt
      obtain ⟨t, ht⟩ : ∃ t, xs.getD k ⟨#[]⟩ = t := ⟨_, rfl⟩
      rw [ht] at hc1
      have HT : Hid (xs.getD k ⟨#[]⟩ = t) := ht
      clear hkk ht
      have cc : wr.cell? ⟨w.heap.size, k, none⟩ = some (cur[k]'(by have := HCS.out; omega)) := by simp [World.cell?, hob]
      have cf : wr.frozen? ⟨w.heap.size, k, none⟩ = false := by simp [World.frozen?, hob]
      go_wp2_with fail
      go_roundw
      case rel =>
        refine ⟨k + 1, cur.setIfInBounds k (.string t), by omega, by go_num, hx.set (Nat.le_refl _) _, blk_set hob _, by simp [HCS.out], fun j hj => ?_⟩
        by_cases hj' : j < k
        · rw [Array.getElem?_setIfInBounds_ne (by omega)]; exact KI.out j hj'
        · have e : j = k := by omega
          subst e
          rw [Array.getElem?_setIfInBounds_self, HT.out, if_pos (by have := HCS.out; omega)]
      case measure => simp [intOf]; omega
    · go_wp2_with fail
      go_ret
      exact ⟨_, rfl, Or.inr ⟨w.heap.size, 0, rfl, Nat.le_refl _, fun i hi => by rw [blk_cell hob, Nat.zero_add]; exact KI.out i (by omega)⟩, hx⟩

theorem MT_of {w w' : World} {S : Nat → Prop} {f : TM} {i b o : Nat} (hc : ∀ q v, q < 5 → w.cell? ⟨b, o + q, none⟩ = some v → w'.cell? ⟨b, o + q, none⟩ = some v) (hk : Ks S w w') (h : MT w S f i b o) : MT w' S f i b o := by
  obtain ⟨h0, h1, h2, ⟨pa, pc, h3, h4⟩, a, cap, h5, h6⟩ := h
  exact ⟨hc 0 _ (by omega) h0, hc 1 _ (by omega) h1, hc 2 _ (by omega) h2, ⟨pa, pc, hc 3 _ (by omega) h3, PS_ks h4.1 hk, h4.2⟩, a, cap, hc 4 _ (by omega) h5, MS_ks h6 hk⟩
theorem MT_mono {w : World} {S S' : Nat → Prop} (hl : ∀ b, b < w.heap.size → S b → S' b) {f : TM} {i b o : Nat} (h : MT w S f i b o) : MT w S' f i b o := by
  obtain ⟨h0, h1, h2, ⟨pa, pc, h3, h4⟩, a, cap, h5, h6⟩ := h
  exact ⟨h0, h1, h2, ⟨pa, pc, h3, PS_mono h4.1 hl, h4.2⟩, a, cap, h5, MS_mono h6 hl⟩

theorem Tryz.info90 : (Tryz.prog.info? 90).map (fun i => (i.zero, i.size, i.bytes)) = some (some (.agg #[.int .i64 0, .int .i64 0, .string ⟨#[]⟩, .slice none 0 0, .slice none 0 0]), 5, 80) := by kernel_rfl

set_option maxRecDepth 100000 in
set_option maxHeartbeats 4000000 in
theorem toTermS_by (f : TM) (a : Option Addr) (c : Nat) (w : World) (hl : tlen f ≤ 1000000000) (hz : TSm f) (hT : MA w 0 f a)
    (hK : ∀ j, j < tlen f → ∀ (pa : Option Addr) (pc : Nat) (a' : Option Addr) (c' : Nat) (w' : World), Ex w w' → PA w' 0 (tpath f j) pa → MA w' 0 (tkid f j) a' → Calls Tryz.prog 109 #[.agg #[.int .i64 (tkind f j), .int .i64 (tnum f j), .string (tname f j), .slice pa (tpath f j).length pc, .slice a' (tlen (tkid f j)) c']] w' fun e w'' => ∃ p2 a2, e = .returned (.agg #[.int .i64 (tkind f j), .int .i64 (tnum f j), .string (tname f j), .slice p2 (tpath f j).length (tpath f j).length, .slice a2 (tlen (tkid f j)) (tlen (tkid f j))]) ∧ PA w'' w'.heap.size (tpath f j) p2 ∧ MA w'' w'.heap.size (tkid f j) a2 ∧ Ex w' w'') :
    Calls Tryz.prog 81 #[.slice a (tlen f) c] w fun e w' => ∃ a', e = .returned (.slice a' (tlen f) (tlen f)) ∧ MA w' w.heap.size f a' ∧ Ex w w' := by
  have T : Hid (∀ w', Ex w w' → MA w' 0 f a) := fun _ h => MA_below hT h
  have I : Hid _ := hK
  have ZS : Hid (TSm f) := hz
  clear hT hK hz
  obtain ⟨i0, hi, hz0, hz1, hz2⟩ := info_parts Tryz.info90
  have hmk : ∀ w : World, (Instr.makeSlice 57 (.int .i64 (tlen f : Int)) (.int .i64 (tlen f : Int))).run Tryz.prog w = .ok (.slice (some ⟨w.heap.size, 0, none⟩) (tlen f) (tlen f)) (w.alloc (.cells (madeCells #[.int .i64 0, .int .i64 0, .string ⟨#[]⟩, .slice none 0 0, .slice none 0 0] (tlen f * 5)) 90)) := fun w => by
    have := run_make (P := Tryz.prog) w 57 90 i0 _ Tryz.underlying57 hi hz0 .i64 .i64 (tlen f : Int) (tlen f : Int) (by omega) (by omega) (by rw [hz2]; omega) (by omega)
    rw [hz1] at this
    simpa [Value.cells] using this
  clear hz0 hz1 hz2 hi
  go_enter Tryz.func81, Tryz.ntmps81
  go_wp2_with fail
  go_loopw [4] (fun i wr => ∃ (k : Nat) (cur : Array Value), k ≤ tlen f ∧ i = .int .i64 k ∧ Ex w wr ∧ wr.heap[w.heap.size]? = some (.cells cur 90 (0, 0)) ∧ cur.size = tlen f * 5 ∧ (∀ j, j < k → MT wr (fun b => w.heap.size < b) f j w.heap.size (0 + j * 5))) (fun i _ => tlen f - (intOf i).toNat)
  case atStart => exact ⟨0, madeCells #[.int .i64 0, .int .i64 0, .string ⟨#[]⟩, .slice none 0 0, .slice none 0 0] (tlen f * 5), Nat.zero_le _, rfl, Ex.new _ _, heap_alloc_new _ _, size_madeCells _ _, fun j hj => by omega⟩
  case round =>
    obtain ⟨j, cur, hk, rfl, hx, hob, hcs, hkids⟩ := hrel
    have KI : Hid _ := hkids
    have HCS : Hid (cur.size = tlen f * 5) := hcs
    have X : Hid (Ex w wr) := hx
    have OB : Hid (wr.heap[w.heap.size]? = some (.cells cur 90 (0, 0))) := hob
    clear hkids hcs hx hob
    by_cases hlt : j < tlen f
    · obtain ⟨b, o, rfl, _, hbs, hkk⟩ := MA_at (T.out wr X.out) (by omega)
      obtain ⟨e0, e1, e2, ⟨pa, pc, e3, hp'⟩, a', c', e4, hm'⟩ := hkk j hlt
      have HI : Hid _ := I.out j hlt pa pc a' c' wr X.out hp'.1 hm'
      have SZP : Hid ((tpath f j).length ≤ 9223372036854775807) := by
        have := (TSm_kid ZS.out j hlt).1
        show _ ≤ _
        omega
      clear hk hkk hp' hm'
      go_wp2_with fail
      refine Calls.mono HI.out ?_
      rintro e w1 ⟨p2, a2, rfl, yp, ym, hb1⟩
      have hob1 := hb1.blk OB.out
      have cc0 : w1.cell? ⟨w.heap.size, j * 5, none⟩ = some (cur[j * 5]'(by have := HCS.out; omega)) := by simp [World.cell?, hob1]
      have cc1 : w1.cell? ⟨w.heap.size, j * 5 + 1, none⟩ = some (cur[j * 5 + 1]'(by have := HCS.out; omega)) := by simp [World.cell?, hob1]
      have cc2 : w1.cell? ⟨w.heap.size, j * 5 + 2, none⟩ = some (cur[j * 5 + 2]'(by have := HCS.out; omega)) := by simp [World.cell?, hob1]
      have cc3 : w1.cell? ⟨w.heap.size, j * 5 + 3, none⟩ = some (cur[j * 5 + 3]'(by have := HCS.out; omega)) := by simp [World.cell?, hob1]
      have cc4 : w1.cell? ⟨w.heap.size, j * 5 + 4, none⟩ = some (cur[j * 5 + 4]'(by have := HCS.out; omega)) := by simp [World.cell?, hob1]
      have cf0 : w1.frozen? ⟨w.heap.size, j * 5, none⟩ = false := by simp [World.frozen?, hob1]
      have cf1 : w1.frozen? ⟨w.heap.size, j * 5 + 1, none⟩ = false := by simp [World.frozen?, hob1]
      have cf2 : w1.frozen? ⟨w.heap.size, j * 5 + 2, none⟩ = false := by simp [World.frozen?, hob1]
      have cf3 : w1.frozen? ⟨w.heap.size, j * 5 + 3, none⟩ = false := by simp [World.frozen?, hob1]
      have cf4 : w1.frozen? ⟨w.heap.size, j * 5 + 4, none⟩ = false := by simp [World.frozen?, hob1]
      have zr : w.heap.size < wr.heap.size := lt_of_block OB.out
      have B1 : Hid _ := hb1
      have OB1 : Hid _ := hob1
      have YP : Hid (PA w1 wr.heap.size (tpath f j) p2) := yp
      have YM : Hid (MA w1 wr.heap.size (tkid f j) a2) := ym
      clear yp ym
      clear hob1 hb1 HI
      go_wp2_with fail
      go_roundw
      case rel =>
        have hb1 := B1.out
        have hob1 := OB1.out
        have hQ : Ks (fun b => w.heap.size < b) w1 (setL w1 w.heap.size (j * 5) [.int .i64 (tkind f j), .int .i64 (tnum f j), .string (tname f j), .slice p2 (tpath f j).length (tpath f j).length, .slice a2 (tlen (tkid f j)) (tlen (tkid f j))]) := fun b hb _ => setL_other _ (by have : w.heap.size < b := hb; omega)
        refine ⟨j + 1, setA cur (j * 5) [.int .i64 (tkind f j), .int .i64 (tnum f j), .string (tname f j), .slice p2 (tpath f j).length (tpath f j).length, .slice a2 (tlen (tkid f j)) (tlen (tkid f j))], by omega, by go_num, setL_ex [.int .i64 (tkind f j), .int .i64 (tnum f j), .string (tname f j), .slice p2 (tpath f j).length (tpath f j).length, .slice a2 (tlen (tkid f j)) (tlen (tkid f j))] (X.out.trans hb1) (Nat.le_refl _), setL_blk [.int .i64 (tkind f j), .int .i64 (tnum f j), .string (tname f j), .slice p2 (tpath f j).length (tpath f j).length, .slice a2 (tlen (tkid f j)) (tlen (tkid f j))] hob1, by rw [setA_size]; exact HCS.out, fun i hi => ?_⟩
        show MT (setL w1 w.heap.size (j * 5) [.int .i64 (tkind f j), .int .i64 (tnum f j), .string (tname f j), .slice p2 (tpath f j).length (tpath f j).length, .slice a2 (tlen (tkid f j)) (tlen (tkid f j))]) (fun b => w.heap.size < b) f i w.heap.size (0 + i * 5)
        have hbk := setL_blk (o := j * 5) [.int .i64 (tkind f j), .int .i64 (tnum f j), .string (tname f j), .slice p2 (tpath f j).length (tpath f j).length, .slice a2 (tlen (tkid f j)) (tlen (tkid f j))] hob1
        by_cases hj' : i < j
        · have h1 := MT_of (w' := w1) (fun q v _ hv => Ex.at hb1 hv) (fun b _ hlt' => hb1.block b hlt') (KI.out i hj')
          exact MT_of (fun q v hq hv => by rw [blk_cell hbk, setA_out _ _ _ _ (Or.inl (by omega)), ← blk_cell hob1]; exact hv) hQ h1
        · have e : j = i := by omega
          subst e
          have hsz := HCS.out
          have hc : ∀ q v, ([.int .i64 (tkind f j), .int .i64 (tnum f j), .string (tname f j), .slice p2 (tpath f j).length (tpath f j).length, .slice a2 (tlen (tkid f j)) (tlen (tkid f j))] : List Value)[q]? = some v → (setL w1 w.heap.size (j * 5) [.int .i64 (tkind f j), .int .i64 (tnum f j), .string (tname f j), .slice p2 (tpath f j).length (tpath f j).length, .slice a2 (tlen (tkid f j)) (tlen (tkid f j))]).cell? ⟨w.heap.size, 0 + j * 5 + q, none⟩ = some v := fun q v hq => by
            have hql : q < 5 := by
              rcases Nat.lt_or_ge q 5 with h | h
              · exact h
              · rw [List.getElem?_eq_none (by simpa using h)] at hq; cases hq
            rw [blk_cell hbk, Nat.zero_add]
            exact setA_in _ _ _ _ _ hq (by omega)
          exact ⟨hc 0 _ rfl, hc 1 _ rfl, hc 2 _ rfl, ⟨p2, _, hc 3 _ rfl, PS_ks (PS_mono YP.out fun b _ hb => by have : wr.heap.size ≤ b := hb; show w.heap.size < b; omega) hQ, Nat.le_refl _, SZP.out⟩, a2, _, hc 4 _ rfl, MS_ks (MS_mono YM.out fun b _ hb => by have : wr.heap.size ≤ b := hb; show w.heap.size < b; omega) hQ⟩
      case measure => simp [intOf]; omega
    · have HE : Hid (∀ i, i < tlen f → MT wr (fun b => w.heap.size < b) f i w.heap.size (0 + i * 5)) := fun i hi => KI.out i (by omega)
      clear KI
      go_wp2_with fail
      go_ret
      exact ⟨_, rfl, MS_mk (Nat.le_refl _) fun i hi => MT_mono (fun b _ hb => Nat.le_of_lt hb) (HE.out i hi), X.out⟩

def toTerm_byP (k n : Int) (s : ByteArray) (p : List Int) (f : TM) (w : World) (e : Ending) (w' : World) : Prop := ∃ p2 a2, e = .returned (.agg #[.int .i64 k, .int .i64 n, .string s, .slice p2 p.length p.length, .slice a2 (tlen f) (tlen f)]) ∧ PA w' w.heap.size p p2 ∧ MA w' w.heap.size f a2 ∧ Ex w w'
set_option maxRecDepth 100000 in
set_option maxHeartbeats 4000000 in
theorem toTerm_by (k n : Int) (s : ByteArray) (p : List Int) (pa : Option Addr) (pc : Nat) (f : TM) (a : Option Addr) (c : Nat) (w : World) (hp : p.length ≤ 1000000000) (hP : PA w 0 p pa) (hK : ∀ w', Ex w w' → Calls Tryz.prog 81 #[.slice a (tlen f) c] w' fun e w'' => ∃ a', e = .returned (.slice a' (tlen f) (tlen f)) ∧ MA w'' w'.heap.size f a' ∧ Ex w' w'') :
    Calls Tryz.prog 109 #[.agg #[.int .i64 k, .int .i64 n, .string s, .slice pa p.length pc, .slice a (tlen f) c]] w (toTerm_byP k n s p f w) := by
  have H_hP : Hid _ := hP
  clear hP
  have H_hK : Hid _ := hK
  clear hK
  go_enter Tryz.func109, Tryz.ntmps109
  go_wp2_with fail
  have hx0 : Ex w (((w.alloc (.cells #[.int .i64 k, .int .i64 n, .string s, .slice pa p.length pc, .slice a (tlen f) c] 162)).alloc (.cells #[.int .i64 0, .int .i64 0, .string ⟨#[]⟩, .slice none 0 0, .slice none 0 0] 90)).alloc (.cells #[.int .i64 k, .int .i64 n, .string s, .slice none 0 0, .slice none 0 0] 90)) := ((Ex.new _ _).alloc _).alloc _
  have z0 : (((w.alloc (.cells #[.int .i64 k, .int .i64 n, .string s, .slice pa p.length pc, .slice a (tlen f) c] 162)).alloc (.cells #[.int .i64 0, .int .i64 0, .string ⟨#[]⟩, .slice none 0 0, .slice none 0 0] 90)).alloc (.cells #[.int .i64 k, .int .i64 n, .string s, .slice none 0 0, .slice none 0 0] 90)).heap.size = w.heap.size + 3 := by simp only [World.size_alloc]
  have hA0 : (((w.alloc (.cells #[.int .i64 k, .int .i64 n, .string s, .slice pa p.length pc, .slice a (tlen f) c] 162)).alloc (.cells #[.int .i64 0, .int .i64 0, .string ⟨#[]⟩, .slice none 0 0, .slice none 0 0] 90)).alloc (.cells #[.int .i64 k, .int .i64 n, .string s, .slice none 0 0, .slice none 0 0] 90)).heap[w.heap.size]? = some (.cells #[.int .i64 k, .int .i64 n, .string s, .slice pa p.length pc, .slice a (tlen f) c] 162 (0, 0)) := (((Ex.new _ _).alloc _).blk (heap_alloc_new _ _))
  have hR0 : (((w.alloc (.cells #[.int .i64 k, .int .i64 n, .string s, .slice pa p.length pc, .slice a (tlen f) c] 162)).alloc (.cells #[.int .i64 0, .int .i64 0, .string ⟨#[]⟩, .slice none 0 0, .slice none 0 0] 90)).alloc (.cells #[.int .i64 k, .int .i64 n, .string s, .slice none 0 0, .slice none 0 0] 90)).heap[w.heap.size + 1]? = some (.cells #[.int .i64 0, .int .i64 0, .string ⟨#[]⟩, .slice none 0 0, .slice none 0 0] 90 (0, 0)) := ((Ex.new _ _).blk (heap_alloc_at _ _ (by simp only [World.size_alloc])))
  have hO0 : (((w.alloc (.cells #[.int .i64 k, .int .i64 n, .string s, .slice pa p.length pc, .slice a (tlen f) c] 162)).alloc (.cells #[.int .i64 0, .int .i64 0, .string ⟨#[]⟩, .slice none 0 0, .slice none 0 0] 90)).alloc (.cells #[.int .i64 k, .int .i64 n, .string s, .slice none 0 0, .slice none 0 0] 90)).heap[w.heap.size + 1 + 1]? = some (.cells #[.int .i64 k, .int .i64 n, .string s, .slice none 0 0, .slice none 0 0] 90 (0, 0)) := heap_alloc_at _ _ (by simp only [World.size_alloc])
  obtain ⟨W0, hW0⟩ : ∃ W0, W0 = (((w.alloc (.cells #[.int .i64 k, .int .i64 n, .string s, .slice pa p.length pc, .slice a (tlen f) c] 162)).alloc (.cells #[.int .i64 0, .int .i64 0, .string ⟨#[]⟩, .slice none 0 0, .slice none 0 0] 90)).alloc (.cells #[.int .i64 k, .int .i64 n, .string s, .slice none 0 0, .slice none 0 0] 90)) := ⟨_, rfl⟩
  rw [← hW0] at hx0 z0 hA0 hR0 hO0 ⊢
  clear hW0
  have X0 : Hid (Ex w W0) := hx0
  have BA0 : Hid _ := hA0
  have BR0 : Hid _ := hR0
  have BO0 : Hid _ := hO0
  have Z0 : Hid (W0.heap.size = w.heap.size + 3) := z0
  clear hx0 hA0 hR0 hO0 z0
  refine (toInts_any p pa pc W0 hp (PA_below H_hP.out X0.out)).mono ?_
  rintro e w1 ⟨p2, rfl, y_p, hb1⟩
  have hxa1 : Ex w w1 := X0.out.trans hb1
  have hA1 := hb1.blk BA0.out
  have hR1 := hb1.blk BR0.out
  have hO1 := hb1.blk BO0.out
  have hsz1 := hb1.size
  have ca4 : w1.cell? ⟨w.heap.size, 4, none⟩ = some (.slice a (tlen f) c) := blk_cell hA1 4
  have co3 : w1.cell? ⟨w.heap.size + 1 + 1, 3, none⟩ = some (.slice none 0 0) := blk_cell hO1 3
  have fo3 := blk_free hO1 3
  have qO1 : (w1.setCell ⟨w.heap.size + 1 + 1, 3, none⟩ (.slice p2 p.length p.length)).heap[w.heap.size + 1 + 1]? = some (.cells #[.int .i64 k, .int .i64 n, .string s, .slice p2 p.length p.length, .slice none 0 0] 90 (0, 0)) := (blk_set hO1 (.slice p2 p.length p.length))
  have qR1 : (w1.setCell ⟨w.heap.size + 1 + 1, 3, none⟩ (.slice p2 p.length p.length)).heap[w.heap.size + 1]? = some (.cells #[.int .i64 0, .int .i64 0, .string ⟨#[]⟩, .slice none 0 0, .slice none 0 0] 90 (0, 0)) := (blk_off hR1 (by omega) (.slice p2 p.length p.length))
  have qA1 : (w1.setCell ⟨w.heap.size + 1 + 1, 3, none⟩ (.slice p2 p.length p.length)).heap[w.heap.size]? = some (.cells #[.int .i64 k, .int .i64 n, .string s, .slice pa p.length pc, .slice a (tlen f) c] 162 (0, 0)) := (blk_off hA1 (by omega) (.slice p2 p.length p.length))
  have qx1 : Ex w (w1.setCell ⟨w.heap.size + 1 + 1, 3, none⟩ (.slice p2 p.length p.length)) := (hxa1.set (by show w.heap.size ≤ w.heap.size + 1 + 1; omega) (.slice p2 p.length p.length))
  have qk1 : Kp (w.heap.size + 3) w1 (w1.setCell ⟨w.heap.size + 1 + 1, 3, none⟩ (.slice p2 p.length p.length)) := ((Kp.refl (w.heap.size + 3) _).set (Or.inl (by show w.heap.size + 1 + 1 < w.heap.size + 3; omega)) (.slice p2 p.length p.length))
  have yb_p1 := PA_kp (PA_lo y_p (by have := Z0.out; omega)) qk1
  have qz1 : w.heap.size + 3 ≤ (w1.setCell ⟨w.heap.size + 1 + 1, 3, none⟩ (.slice p2 p.length p.length)).heap.size := by (try simp only [World.size_setCell]); have := Z0.out; omega
  obtain ⟨W1, hW1⟩ : ∃ W, W = (w1.setCell ⟨w.heap.size + 1 + 1, 3, none⟩ (.slice p2 p.length p.length)) := ⟨_, rfl⟩
  rw [← hW1] at qO1 qR1 qA1 qx1 qz1 yb_p1
  have X1 : Hid (Ex w W1) := qx1
  have BA1 : Hid _ := qA1
  have BR1 : Hid _ := qR1
  have BO1 : Hid _ := qO1
  have Z1 : Hid (w.heap.size + 3 ≤ W1.heap.size) := qz1
  have HW1 : Hid (W1 = (w1.setCell ⟨w.heap.size + 1 + 1, 3, none⟩ (.slice p2 p.length p.length))) := hW1
  skip
  have M_p : Hid _ := yb_p1
  clear hW1 qO1 qR1 qA1 qx1 qz1 qk1 hxa1 hA1 hR1 hO1 hsz1 hb1 BA0 BR0 BO0 X0 Z0 yb_p1  y_p
  go_wp2_with fail
  rw [← HW1.out]
  clear HW1 ca4 co3 fo3
  refine (H_hK.out _ X1.out).mono ?_
  rintro e w2 ⟨a2, rfl, y_f, hb2⟩
  have hxa2 : Ex w w2 := X1.out.trans hb2
  have hA2 := hb2.blk BA1.out
  have hR2 := hb2.blk BR1.out
  have hO2 := hb2.blk BO1.out
  have hsz2 := hb2.size
  have ya_p2 := PA_below M_p.out hb2
  have co0 : w2.cell? ⟨w.heap.size + 1 + 1, 0, none⟩ = some (.int .i64 k) := blk_cell hO2 0
  have co1 : w2.cell? ⟨w.heap.size + 1 + 1, 1, none⟩ = some (.int .i64 n) := blk_cell hO2 1
  have co2 : w2.cell? ⟨w.heap.size + 1 + 1, 2, none⟩ = some (.string s) := blk_cell hO2 2
  have co3 : w2.cell? ⟨w.heap.size + 1 + 1, 3, none⟩ = some (.slice p2 p.length p.length) := blk_cell hO2 3
  have co4 : w2.cell? ⟨w.heap.size + 1 + 1, 4, none⟩ = some (.slice none 0 0) := blk_cell hO2 4
  have fo4 := blk_free hO2 4
  have cr0 : w2.cell? ⟨w.heap.size + 1, 0, none⟩ = some (.int .i64 0) := blk_cell hR2 0
  have cr1 : w2.cell? ⟨w.heap.size + 1, 1, none⟩ = some (.int .i64 0) := blk_cell hR2 1
  have cr2 : w2.cell? ⟨w.heap.size + 1, 2, none⟩ = some (.string ⟨#[]⟩) := blk_cell hR2 2
  have cr3 : w2.cell? ⟨w.heap.size + 1, 3, none⟩ = some (.slice none 0 0) := blk_cell hR2 3
  have cr4 : w2.cell? ⟨w.heap.size + 1, 4, none⟩ = some (.slice none 0 0) := blk_cell hR2 4
  have fr0 := blk_free hR2 0
  have fr1 := blk_free hR2 1
  have fr2 := blk_free hR2 2
  have fr3 := blk_free hR2 3
  have fr4 := blk_free hR2 4
  have qO2 : (w2.setCell ⟨w.heap.size + 1 + 1, 4, none⟩ (.slice a2 (tlen f) (tlen f))).heap[w.heap.size + 1 + 1]? = some (.cells #[.int .i64 k, .int .i64 n, .string s, .slice p2 p.length p.length, .slice a2 (tlen f) (tlen f)] 90 (0, 0)) := (blk_set hO2 (.slice a2 (tlen f) (tlen f)))
  have qR2 : (w2.setCell ⟨w.heap.size + 1 + 1, 4, none⟩ (.slice a2 (tlen f) (tlen f))).heap[w.heap.size + 1]? = some (.cells #[.int .i64 0, .int .i64 0, .string ⟨#[]⟩, .slice none 0 0, .slice none 0 0] 90 (0, 0)) := (blk_off hR2 (by omega) (.slice a2 (tlen f) (tlen f)))
  have qA2 : (w2.setCell ⟨w.heap.size + 1 + 1, 4, none⟩ (.slice a2 (tlen f) (tlen f))).heap[w.heap.size]? = some (.cells #[.int .i64 k, .int .i64 n, .string s, .slice pa p.length pc, .slice a (tlen f) c] 162 (0, 0)) := (blk_off hA2 (by omega) (.slice a2 (tlen f) (tlen f)))
  have qx2 : Ex w (w2.setCell ⟨w.heap.size + 1 + 1, 4, none⟩ (.slice a2 (tlen f) (tlen f))) := (hxa2.set (by show w.heap.size ≤ w.heap.size + 1 + 1; omega) (.slice a2 (tlen f) (tlen f)))
  have qk2 : Kp (w.heap.size + 3) w2 (w2.setCell ⟨w.heap.size + 1 + 1, 4, none⟩ (.slice a2 (tlen f) (tlen f))) := ((Kp.refl (w.heap.size + 3) _).set (Or.inl (by show w.heap.size + 1 + 1 < w.heap.size + 3; omega)) (.slice a2 (tlen f) (tlen f)))
  have yb_p2 := PA_kp ya_p2 qk2
  have yb_f2 := MA_kp (MA_lo y_f (by have := Z1.out; omega)) qk2
  have qz2 : w.heap.size + 3 ≤ (w2.setCell ⟨w.heap.size + 1 + 1, 4, none⟩ (.slice a2 (tlen f) (tlen f))).heap.size := by (try simp only [World.size_setCell]); have := Z1.out; omega
  have qQ : (setL (w2.setCell ⟨w.heap.size + 1 + 1, 4, none⟩ (.slice a2 (tlen f) (tlen f))) (w.heap.size + 1) 0 [.int .i64 k, .int .i64 n, .string s, .slice p2 p.length p.length, .slice a2 (tlen f) (tlen f)]).heap[w.heap.size + 1]? = some (.cells #[.int .i64 k, .int .i64 n, .string s, .slice p2 p.length p.length, .slice a2 (tlen f) (tlen f)] 90 (0, 0)) := (setL_blk [.int .i64 k, .int .i64 n, .string s, .slice p2 p.length p.length, .slice a2 (tlen f) (tlen f)] qR2).trans (by rw [setA_all [.int .i64 k, .int .i64 n, .string s, .slice p2 p.length p.length, .slice a2 (tlen f) (tlen f)] #[.int .i64 0, .int .i64 0, .string ⟨#[]⟩, .slice none 0 0, .slice none 0 0] rfl])
  have rr0 : (setL (w2.setCell ⟨w.heap.size + 1 + 1, 4, none⟩ (.slice a2 (tlen f) (tlen f))) (w.heap.size + 1) 0 [.int .i64 k, .int .i64 n, .string s, .slice p2 p.length p.length, .slice a2 (tlen f) (tlen f)]).cell? ⟨w.heap.size + 1, 0, none⟩ = some (.int .i64 k) := blk_cell qQ 0
  have rr1 : (setL (w2.setCell ⟨w.heap.size + 1 + 1, 4, none⟩ (.slice a2 (tlen f) (tlen f))) (w.heap.size + 1) 0 [.int .i64 k, .int .i64 n, .string s, .slice p2 p.length p.length, .slice a2 (tlen f) (tlen f)]).cell? ⟨w.heap.size + 1, 1, none⟩ = some (.int .i64 n) := blk_cell qQ 1
  have rr2 : (setL (w2.setCell ⟨w.heap.size + 1 + 1, 4, none⟩ (.slice a2 (tlen f) (tlen f))) (w.heap.size + 1) 0 [.int .i64 k, .int .i64 n, .string s, .slice p2 p.length p.length, .slice a2 (tlen f) (tlen f)]).cell? ⟨w.heap.size + 1, 2, none⟩ = some (.string s) := blk_cell qQ 2
  have rr3 : (setL (w2.setCell ⟨w.heap.size + 1 + 1, 4, none⟩ (.slice a2 (tlen f) (tlen f))) (w.heap.size + 1) 0 [.int .i64 k, .int .i64 n, .string s, .slice p2 p.length p.length, .slice a2 (tlen f) (tlen f)]).cell? ⟨w.heap.size + 1, 3, none⟩ = some (.slice p2 p.length p.length) := blk_cell qQ 3
  have rr4 : (setL (w2.setCell ⟨w.heap.size + 1 + 1, 4, none⟩ (.slice a2 (tlen f) (tlen f))) (w.heap.size + 1) 0 [.int .i64 k, .int .i64 n, .string s, .slice p2 p.length p.length, .slice a2 (tlen f) (tlen f)]).cell? ⟨w.heap.size + 1, 4, none⟩ = some (.slice a2 (tlen f) (tlen f)) := blk_cell qQ 4
  have qxx : Ex w (setL (w2.setCell ⟨w.heap.size + 1 + 1, 4, none⟩ (.slice a2 (tlen f) (tlen f))) (w.heap.size + 1) 0 [.int .i64 k, .int .i64 n, .string s, .slice p2 p.length p.length, .slice a2 (tlen f) (tlen f)]) := setL_ex [.int .i64 k, .int .i64 n, .string s, .slice p2 p.length p.length, .slice a2 (tlen f) (tlen f)] qx2 (by omega)
  have qkk : Kp (w.heap.size + 3) (w2.setCell ⟨w.heap.size + 1 + 1, 4, none⟩ (.slice a2 (tlen f) (tlen f))) (setL (w2.setCell ⟨w.heap.size + 1 + 1, 4, none⟩ (.slice a2 (tlen f) (tlen f))) (w.heap.size + 1) 0 [.int .i64 k, .int .i64 n, .string s, .slice p2 p.length p.length, .slice a2 (tlen f) (tlen f)]) := setL_kp [.int .i64 k, .int .i64 n, .string s, .slice p2 p.length p.length, .slice a2 (tlen f) (tlen f)] (Kp.refl _ _) (Or.inl (by omega))
  have yc_p := PA_kp yb_p2 qkk
  have yc_f := MA_kp yb_f2 qkk
  have RR0 : Hid _ := rr0
  have RR1 : Hid _ := rr1
  have RR2 : Hid _ := rr2
  have RR3 : Hid _ := rr3
  have RR4 : Hid _ := rr4
  have QX : Hid _ := qxx
  have YC_p : Hid _ := yc_p
  have YC_f : Hid _ := yc_f
  clear qQ qxx qkk qO2 qR2 qA2 qx2 qz2 qk2 hxa2 hA2 hR2 hO2 hsz2 hb2 BA1 BR1 BO1 X1 Z1 rr0 rr1 rr2 rr3 rr4 yb_p2 yc_p yb_f2 yc_f ya_p2 M_p y_f
  go_wp2_with fail
  have r0 := RR0.out
  have r1 := RR1.out
  have r2 := RR2.out
  have r3 := RR3.out
  have r4 := RR4.out
  simp only [setL, Nat.zero_add, Nat.reduceAdd] at r0 r1 r2 r3 r4
  refine bodyPost_ret (v := .agg #[.int .i64 k, .int .i64 n, .string s, .slice p2 p.length p.length, .slice a2 (tlen f) (tlen f)]) (by simp [results, Tryz.results109, go_sem, r0, r1, r2, r3, r4]) rfl ?_
  exact ⟨p2, a2, rfl, PA_lo YC_p.out (by omega), MA_lo YC_f.out (by omega), QX.out⟩

theorem toTermS_all : ∀ (d : Nat) (f : TM) (a : Option Addr) (c : Nat) (w : World), tdep f < d → tlen f ≤ 1000000000 → TSm f → MA w 0 f a →
    Calls Tryz.prog 81 #[.slice a (tlen f) c] w fun e w' => ∃ a', e = .returned (.slice a' (tlen f) (tlen f)) ∧ MA w' w.heap.size f a' ∧ Ex w w' := by
  intro d
  induction d with
  | zero => intro f a c w hd; omega
  | succ d ih =>
    intro f a c w hd hl hm hT
    refine toTermS_by f a c w hl hm hT fun j hj pa pc a' c' w' hx hp hk => ?_
    obtain ⟨g1, g2, g3⟩ := TSm_kid hm j hj
    have hdj := tdep_kid f j hj
    exact toTerm_by _ _ _ _ pa pc _ a' c' w' g1 hp (fun w2 hx2 => ih _ a' c' w2 (by omega) g2 g3 (MA_below hk hx2))

theorem toTermS_any (f : TM) (a : Option Addr) (c : Nat) (w : World) (hl : tlen f ≤ 1000000000) (hm : TSm f) (hT : MA w 0 f a) :
    Calls Tryz.prog 81 #[.slice a (tlen f) c] w fun e w' => ∃ a', e = .returned (.slice a' (tlen f) (tlen f)) ∧ MA w' w.heap.size f a' ∧ Ex w w' := toTermS_all (tdep f + 1) f a c w (by omega) hl hm hT

end Go.Proofs.YtgpdnoghlommeaaGreatDoor
