/- Walks: texts and terms counted by the exact laws. -/
import Derived.Test.YthdihpcpobhadaaDoorBD1

namespace Go.Proofs.YthdihpcpobhadaaDoor

open Go.RowKit Go.Deep

attribute [local go_sem ↓] Go.wp_at_zero Go.wp_at_succ

/-- What a count answers: what is left, or -1; and what it tells, if something is left: so much has been counted, at least. -/
def SzP (n : Nat) (S : Prop) (l : Int) (w : World) (e : Ending) (w' : World) : Prop := ∃ x : Int, e = .returned (.int .i64 x) ∧ -1 ≤ x ∧ x ≤ l ∧ (0 ≤ x → S ∧ x + n ≤ l) ∧ Ex w w'

/-- The sum of so many. -/
def sumN (g : Nat → Nat) : Nat → Nat
  | 0 => 0
  | k + 1 => sumN g k + g k
theorem sumN_shift (g : Nat → Nat) : ∀ n, sumN g (n + 1) = g 0 + sumN (fun i => g (i + 1)) n
  | 0 => by simp [sumN]
  | n + 1 => by rw [sumN, sumN_shift g n, sumN]; omega
theorem sumN_eq {g g' : Nat → Nat} : ∀ n, (∀ i, i < n → g i = g' i) → sumN g n = sumN g' n
  | 0, _ => rfl
  | n + 1, h => by rw [sumN, sumN, sumN_eq n fun i hi => h i (by omega), h n (by omega)]

/-- How much texts count. -/
def xW (p : List ByteArray) : Nat := p.length + sumN (fun i => (p.getD i ⟨#[]⟩).size) p.length
/-- How much terms count. -/
def tW : TM → Nat
  | .nil => 0
  | .node _ _ (_, _, s, p) k r => 1 + (s.size + p.length + tW k) + tW r
def tWk (f : TM) (j : Nat) : Nat := (tname f j).size + (tpath f j).length + tW (tkid f j)
theorem tW_sum : ∀ f : TM, tW f = tlen f + sumN (tWk f) (tlen f)
  | .nil => rfl
  | .node a b (k, n, s, p) f r => by
    have h : sumN (fun i => tWk (.node a b (k, n, s, p) f r) (i + 1)) (tlen r) = sumN (tWk r) (tlen r) := sumN_eq _ fun i _ => rfl
    rw [tlen, sumN_shift, h, tW, tW_sum r]
    show _ = _ + ((s.size + p.length + tW f) + _)
    omega

set_option maxHeartbeats 1000000 in
theorem szInts_any (n c : Nat) (a : Option Addr) (l : Int) (w : World) (hn : n ≤ 9223372036854775807) (h0 : 0 ≤ l) (h1 : l ≤ 1048576) :
    Calls Tryd.prog 47 #[.slice a n c, .int .i64 l] w (SzP n (n ≤ 1048576) l w) := by
  by_cases hb : l - n < 0
  · go_enter Tryd.func47, Tryd.ntmps47
    go_wp2_with fail
    go_ret
    exact ⟨-1, rfl, by omega, by omega, by omega, Ex.refl _⟩
  · go_enter Tryd.func47, Tryd.ntmps47
    go_wp2_with fail
    go_ret
    exact ⟨l - n, rfl, by omega, by omega, fun _ => ⟨by omega, by omega⟩, Ex.refl _⟩

/-- All texts are of a length that is one. -/
def XLm (p : List ByteArray) : Prop := ∀ i, i < p.length → (p.getD i ⟨#[]⟩).size ≤ 9223372036854775807

set_option maxHeartbeats 1000000 in
theorem szTexts_any (p : List ByteArray) (a : Option Addr) (c : Nat) (l : Int) (w : World) (hlen : p.length ≤ 9223372036854775807) (hs : XLm p) (h0 : 0 ≤ l) (h1 : l ≤ 1048576) (hT : XA w 0 p a) :
    Calls Tryd.prog 13 #[.slice a p.length c, .int .i64 l] w (SzP (xW p) (p.length ≤ 1048576) l w) := by
  have T : Hid (∀ w', Ex w w' → XA w' 0 p a) := fun _ h => XA_below hT h
  have S : Hid (XLm p) := hs
  clear hT hs
  by_cases hneg : l - p.length < 0
  · go_enter Tryd.func13, Tryd.ntmps13
    go_wp2_with fail
    go_ret
    exact ⟨-1, rfl, by omega, by omega, fun h => by omega, Ex.refl _⟩
  · go_enter Tryd.func13, Tryd.ntmps13
    go_wp2_with fail
    go_loopw [1, 5] (fun lv i wr => ∃ (k : Nat) (x : Int), k ≤ p.length ∧ i = .int .i64 k ∧ lv = .int .i64 x ∧ 0 ≤ x ∧ x + (p.length + sumN (fun i => (p.getD i ⟨#[]⟩).size) k : Nat) ≤ l ∧ Ex w wr) (fun _ i _ => p.length - (intOf i).toNat)
    case atStart => exact ⟨0, l - p.length, Nat.zero_le _, rfl, rfl, by omega, by simp only [sumN]; omega, Ex.refl _⟩
    case round =>
      obtain ⟨k, x, hk, rfl, rfl, hx0, hxl, hx⟩ := hrel
      have X : Hid (Ex w wr) := hx
      have HX : Hid (x + (p.length + sumN (fun i => (p.getD i ⟨#[]⟩).size) k : Nat) ≤ l) := hxl
      have hxm : x ≤ l := by omega
      clear hx hxl
      by_cases hlt : k < p.length
      · obtain ⟨b, o, rfl, hbs, _, hc⟩ := XA_at (T.out wr X.out) (by omega)
        have ck := hc k hlt
        have hz := S.out k hlt
        obtain ⟨t, ht⟩ : ∃ t, p.getD k ⟨#[]⟩ = t := ⟨_, rfl⟩
        rw [ht] at ck hz
        have HS : Hid ((p.getD k ⟨#[]⟩).size = t.size) := by show _ = _; rw [ht]
        clear hc ht
        by_cases hy : x - t.size < 0
        · go_wp2_with fail
          go_ret
          exact ⟨-1, rfl, by omega, by omega, fun h => by omega, X.out⟩
        · have HX2 : Hid (x - t.size + (p.length + sumN (fun i => (p.getD i ⟨#[]⟩).size) (k + 1) : Nat) ≤ l) := by
            have q1 := HX.out
            have q2 := HS.out
            show _ ≤ _
            simp only [sumN]
            omega
          go_wp2_with fail
          go_roundw
          case rel => exact ⟨k + 1, x - t.size, by omega, by go_num, rfl, by omega, HX2.out, X.out⟩
          case measure => simp [intOf]; omega
      · have hkl : k = p.length := by omega
        have HX2 : Hid (x + (xW p : Nat) ≤ l) := by
          have q1 := HX.out
          rw [hkl] at q1
          exact q1
        clear hkl
        go_wp2_with fail
        go_ret
        exact ⟨x, rfl, by omega, by omega, fun _ => ⟨by omega, HX2.out⟩, X.out⟩

/-- All lists and names are of a length that is one. -/
def TLm : TM → Prop
  | .nil => True
  | .node _ _ (_, _, s, p) k r => s.size ≤ 9223372036854775807 ∧ p.length ≤ 9223372036854775807 ∧ tlen k ≤ 9223372036854775807 ∧ TLm k ∧ TLm r
theorem TLm_at : ∀ {f : TM}, TLm f → ∀ i, i < tlen f → (tname f i).size ≤ 9223372036854775807 ∧ (tpath f i).length ≤ 9223372036854775807 ∧ tlen (tkid f i) ≤ 9223372036854775807 ∧ TLm (tkid f i)
  | .nil, _, i, h => by simp [tlen] at h
  | .node _ _ (_, _, _, _) k r, hs, 0, _ => ⟨hs.1, hs.2.1, hs.2.2.1, hs.2.2.2.1⟩
  | .node _ _ (_, _, _, _) k r, hs, i + 1, h => TLm_at hs.2.2.2.2 i (by simp only [tlen] at h; omega)

/-- Small, as far as it goes. -/
def TSmTo (f : TM) (k : Nat) : Prop := ∀ j, j < k → (tpath f j).length ≤ 1048576 ∧ tlen (tkid f j) ≤ 1048576 ∧ TSm (tkid f j)
theorem TSm_of : ∀ {f : TM}, TSmTo f (tlen f) → TSm f
  | .nil, _ => trivial
  | .node _ _ (_, _, _, p) k r, h => by
    have h0 := h 0 (by simp [tlen])
    simp only [tpath, tkid] at h0
    exact ⟨by omega, by omega, h0.2.2, TSm_of fun j hj => h (j + 1) (by simp only [tlen]; omega)⟩

set_option maxRecDepth 100000 in
set_option maxHeartbeats 2000000 in
theorem szTermS_by (f : TM) (a : Option Addr) (c : Nat) (l : Int) (w : World) (hlen : tlen f ≤ 9223372036854775807) (h0 : 0 ≤ l) (h1 : l ≤ 1048576) (hT : MA w 0 f a)
    (hK : ∀ j, j < tlen f → ∀ (pa : Option Addr) (pc : Nat) (a' : Option Addr) (c' : Nat) (m : Int) (w' : World), Ex w w' → 0 ≤ m → m ≤ 1048576 → MA w' 0 (tkid f j) a' → Calls Tryd.prog 15 #[.agg #[.int .i64 (tkind f j), .int .i64 (tnum f j), .string (tname f j), .slice pa (tpath f j).length pc, .slice a' (tlen (tkid f j)) c'], .int .i64 m] w' (SzP (tWk f j) ((tpath f j).length ≤ 1048576 ∧ tlen (tkid f j) ≤ 1048576 ∧ TSm (tkid f j)) m w')) :
    Calls Tryd.prog 48 #[.slice a (tlen f) c, .int .i64 l] w (SzP (tW f) (tlen f ≤ 1048576 ∧ TSm f) l w) := by
  have T : Hid (∀ w', Ex w w' → MA w' 0 f a) := fun _ h => MA_below hT h
  have I : Hid _ := hK
  clear hT hK
  by_cases hneg : l - tlen f < 0
  · go_enter Tryd.func48, Tryd.ntmps48
    go_wp2_with fail
    go_ret
    exact ⟨-1, rfl, by omega, by omega, fun h => by omega, Ex.refl _⟩
  · go_enter Tryd.func48, Tryd.ntmps48
    go_wp2_with fail
    go_loopw [1, 5] (fun lv i wr => ∃ (k : Nat) (x : Int), k ≤ tlen f ∧ i = .int .i64 k ∧ lv = .int .i64 x ∧ 0 ≤ x ∧ x + (tlen f + sumN (tWk f) k : Nat) ≤ l ∧ TSmTo f k ∧ Ex w wr) (fun _ i _ => tlen f - (intOf i).toNat)
    case atStart => exact ⟨0, l - tlen f, Nat.zero_le _, rfl, rfl, by omega, by simp only [sumN]; omega, fun j hj => by omega, Ex.refl _⟩
    case round =>
      obtain ⟨j, x, hk, rfl, rfl, hx0, hxl, hsm, hx⟩ := hrel
      have ST : Hid (TSmTo f j) := hsm
      have HX : Hid (x + (tlen f + sumN (tWk f) j : Nat) ≤ l) := hxl
      have hxm : x ≤ l := by omega
      clear hxl
      have X : Hid (Ex w wr) := hx
      clear hsm hx
      by_cases hlt : j < tlen f
      · obtain ⟨b, o, rfl, _, hbs, hk⟩ := MA_at (T.out wr X.out) (by omega)
        obtain ⟨e0, e1, e2, ⟨pa, pc, e3, hp'⟩, a', c', e4, hm'⟩ := hk j hlt
        have HI : Hid _ := I.out j hlt pa pc a' c' x wr X.out hx0 (by omega) hm'
        clear hk hp' hm'
        go_wp2_with fail
        refine Calls.mono HI.out ?_
        rintro e w1 ⟨y, rfl, hy0, hy1, hyf, hb1⟩
        have YF : Hid (0 ≤ y → (tpath f j).length ≤ 1048576 ∧ tlen (tkid f j) ≤ 1048576 ∧ TSm (tkid f j)) := fun h => (hyf h).1
        have YW : Hid (0 ≤ y → y + (tWk f j : Nat) ≤ x) := fun h => (hyf h).2
        have X1 : Hid (Ex w w1) := X.out.trans hb1
        clear hyf hb1 HI
        by_cases hy : y < 0
        · go_wp2_with fail
          go_ret
          exact ⟨-1, rfl, by omega, by omega, fun h => by omega, X1.out⟩
        · have HS : Hid (TSmTo f (j + 1)) := fun i hi => by
            by_cases hj' : i < j
            · exact ST.out i hj'
            · have e : i = j := by omega
              subst e
              exact YF.out (by omega)
          have HX2 : Hid (y + (tlen f + sumN (tWk f) (j + 1) : Nat) ≤ l) := by
            have q1 := HX.out
            have q2 := YW.out (by omega)
            show _ ≤ _
            simp only [sumN]
            omega
          go_wp2_with fail
          go_roundw
          case rel => exact ⟨j + 1, y, by omega, by go_num, rfl, by omega, HX2.out, HS.out, X1.out⟩
          case measure => simp [intOf]; omega
      · have hjl : j = tlen f := by omega
        have HS : Hid _ := TSm_of (hjl ▸ ST.out)
        have HX2 : Hid (x + (tW f : Nat) ≤ l) := by
          have q1 := HX.out
          rw [hjl] at q1
          show _ ≤ _
          rw [tW_sum]
          exact q1
        clear hjl
        go_wp2_with fail
        go_ret
        exact ⟨x, rfl, by omega, by omega, fun _ => ⟨⟨by omega, HS.out⟩, HX2.out⟩, X.out⟩

set_option maxRecDepth 100000 in
set_option maxHeartbeats 2000000 in
theorem szTerm_by (k n : Int) (s : ByteArray) (np : Nat) (pa : Option Addr) (pc : Nat) (f : TM) (a : Option Addr) (c : Nat) (l : Int) (w : World) (hs : s.size ≤ 9223372036854775807) (hnp : np ≤ 9223372036854775807) (hK : ∀ (m : Int) (w' : World), Ex w w' → 0 ≤ m → m ≤ 1048576 → Calls Tryd.prog 48 #[.slice a (tlen f) c, .int .i64 m] w' (SzP (tW f) (tlen f ≤ 1048576 ∧ TSm f) m w')) (h0 : 0 ≤ l) (h1 : l ≤ 1048576) :
    Calls Tryd.prog 15 #[.agg #[.int .i64 k, .int .i64 n, .string s, .slice pa np pc, .slice a (tlen f) c], .int .i64 l] w (SzP (s.size + np + tW f) (np ≤ 1048576 ∧ tlen f ≤ 1048576 ∧ TSm f) l w) := by
  have N : Hid (Ex w (w.alloc (.cells #[.int .i64 k, .int .i64 n, .string s, .slice pa np pc, .slice a (tlen f) c] 43))) := Ex.new _ _
  have C : Hid (∀ w', Ex (w.alloc (.cells #[.int .i64 k, .int .i64 n, .string s, .slice pa np pc, .slice a (tlen f) c] 43)) w' → w'.cell? ⟨w.heap.size, 0, none⟩ = some (.int .i64 k) ∧ w'.cell? ⟨w.heap.size, 1, none⟩ = some (.int .i64 n) ∧ w'.cell? ⟨w.heap.size, 2, none⟩ = some (.string s) ∧ w'.cell? ⟨w.heap.size, 3, none⟩ = some (.slice pa np pc) ∧ w'.cell? ⟨w.heap.size, 4, none⟩ = some (.slice a (tlen f) c)) := fun w' h => ⟨h.at (by simp), h.at (by simp), h.at (by simp), h.at (by simp), h.at (by simp)⟩
  by_cases hb1 : l - s.size < 0
  · go_enter Tryd.func15, Tryd.ntmps15
    go_wp2_with fail
    go_ret
    exact ⟨-1, rfl, by omega, by omega, fun h => by omega, N.out⟩
  obtain ⟨m1, hm1⟩ : ∃ m : Int, m = l - s.size := ⟨_, rfl⟩
  have hp1 : 0 ≤ m1 := by omega
  have HV1 : Hid (m1 + (s.size : Nat) ≤ l) := by show _ ≤ _; omega
  have hq1 : m1 ≤ l := by omega
  go_enter Tryd.func15, Tryd.ntmps15
  go_wp2_with fail
  rw [← hm1]
  clear hb1 hm1
  refine (szInts_any np pc pa m1 _ hnp (by omega) (by omega)).mono ?_
  rintro e w2 ⟨x2, rfl, hxa2, hxb2, hxf2, hxe2⟩
  have F2 : Hid (0 ≤ x2 → np ≤ 1048576) := fun h => (hxf2 h).1
  have HV2 : Hid (0 ≤ x2 → x2 + (np : Nat) ≤ m1) := fun h => (hxf2 h).2
  have X2 : Hid (Ex (w.alloc (.cells #[.int .i64 k, .int .i64 n, .string s, .slice pa np pc, .slice a (tlen f) c] 43)) w2) := hxe2
  have hr2 : x2 ≤ l := by omega
  clear hxf2 hxe2
  obtain ⟨c0, c1, c2, c3, c4⟩ := C.out w2 X2.out
  by_cases hx2 : x2 < 0
  · go_wp2_with fail
    go_ret
    exact ⟨-1, rfl, by omega, by omega, fun h => by omega, (N.out.trans X2.out)⟩
  go_wp2_with fail
  refine (hK x2 _ (N.out.trans X2.out) (by omega) (by omega)).mono ?_
  rintro e w3 ⟨x3, rfl, hxa3, hxb3, hxf3, hxe3⟩
  have F3 : Hid (0 ≤ x3 → tlen f ≤ 1048576 ∧ TSm f) := fun h => (hxf3 h).1
  have HV3 : Hid (0 ≤ x3 → x3 + (tW f : Nat) ≤ x2) := fun h => (hxf3 h).2
  have X3 : Hid (Ex (w.alloc (.cells #[.int .i64 k, .int .i64 n, .string s, .slice pa np pc, .slice a (tlen f) c] 43)) w3) := X2.out.trans hxe3
  have hr3 : x3 ≤ l := by omega
  clear hxf3 hxe3
  clear c0 c1 c2 c3 c4
  obtain ⟨c0, c1, c2, c3, c4⟩ := C.out w3 X3.out
  by_cases hx3 : x3 < 0
  · go_wp2_with fail
    go_ret
    exact ⟨-1, rfl, by omega, by omega, fun h => by omega, (N.out.trans X3.out)⟩
  go_wp2_with fail
  go_ret
  exact ⟨x3, rfl, by omega, by omega, fun _ => ⟨⟨F2.out (by omega), F3.out (by omega)⟩, by have v1 := HV1.out; have v2 := HV2.out (by omega); have v3 := HV3.out (by omega); omega⟩, (N.out.trans X3.out)⟩

theorem szTermS_all : ∀ (d : Nat) (f : TM) (a : Option Addr) (c : Nat) (l : Int) (w : World), tdep f < d → tlen f ≤ 9223372036854775807 → TLm f → 0 ≤ l → l ≤ 1048576 → MA w 0 f a →
    Calls Tryd.prog 48 #[.slice a (tlen f) c, .int .i64 l] w (SzP (tW f) (tlen f ≤ 1048576 ∧ TSm f) l w) := by
  intro d
  induction d with
  | zero => intro f a c l w hd; omega
  | succ d ih =>
    intro f a c l w hd hl hm h0 h1 hT
    refine szTermS_by f a c l w hl h0 h1 hT fun j hj pa pc a' c' m w' _ hm0 hm1 hk => ?_
    obtain ⟨g1, g2, g3, g4⟩ := TLm_at hm j hj
    have hdj := tdep_kid f j hj
    exact szTerm_by _ _ _ _ pa pc _ a' c' m w' g1 g2 (fun m2 w2 hx2 hm2 hm3 => ih _ a' c' m2 w2 (by omega) g3 g4 hm2 hm3 (MA_below hk hx2)) hm0 hm1

theorem szTermS_any (f : TM) (a : Option Addr) (c : Nat) (l : Int) (w : World) (hl : tlen f ≤ 9223372036854775807) (hm : TLm f) (h0 : 0 ≤ l) (h1 : l ≤ 1048576) (hT : MA w 0 f a) :
    Calls Tryd.prog 48 #[.slice a (tlen f) c, .int .i64 l] w (SzP (tW f) (tlen f ≤ 1048576 ∧ TSm f) l w) := szTermS_all (tdep f + 1) f a c l w (by omega) hl hm h0 h1 hT

end Go.Proofs.YthdihpcpobhadaaDoor
