/- Walks: texts and terms counted by the exact laws. Walks: names bound, and names that may be bound together. Walks: the program's terms that are ok by names. Walks: what the exact laws do with types. -/
import Derived.Test.YtgpdnoghlommeaaGreatDoorGBD3
import Derived.Test.YtgpdnoghlommeaaGreatDoorGIM3
import Derived.Test.YtgpdnoghlommeaaGreatDoorGTM2
namespace Go.Proofs.YtgpdnoghlommeaaGreatDoor

open Go.RowKit Go.Deep

attribute [local go_sem ↓] Go.wp_at_zero Go.wp_at_succ

/-- What a count answers: what is left, or -1; and what it tells, if something is left: so much has been counted, at least. -/
def SzP (n : Nat) (S : Prop) (l : Int) (w : World) (e : Ending) (w' : World) : Prop := ∃ x : Int, e = .returned (.int .i64 x) ∧ -1 ≤ x ∧ x ≤ l ∧ (0 ≤ x → S ∧ x + n ≤ l) ∧ Ex w w'

/-- The sum of so many. -/
def sumN (g : Nat → Nat) : Nat → Nat
  | 0 => 0
  | k + 1 => sumN g k + g k
theorem sumN_shift (g : Nat → Nat) : ∀ n, sumN g (n + 1) = g 0 + sumN (fun i => g (i + 1)) n
  | 0 => by simp [sumN]
  | n + 1 => by rw [sumN, sumN_shift g n, sumN]; omega
theorem sumN_eq {g g' : Nat → Nat} : ∀ n, (∀ i, i < n → g i = g' i) → sumN g n = sumN g' n
  | 0, _ => rfl
  | n + 1, h => by rw [sumN, sumN, sumN_eq n fun i hi => h i (by omega), h n (by omega)]

/-- How much texts count. -/
def xW (p : List ByteArray) : Nat := p.length + sumN (fun i => (p.getD i ⟨#[]⟩).size) p.length
/-- How much terms count. -/
def tW : TM → Nat
  | .nil => 0
  | .node _ _ (_, _, s, p) k r => 1 + (s.size + p.length + tW k) + tW r
def tWk (f : TM) (j : Nat) : Nat := (tname f j).size + (tpath f j).length + tW (tkid f j)
theorem tW_sum : ∀ f : TM, tW f = tlen f + sumN (tWk f) (tlen f)
  | .nil => rfl
  | .node a b (k, n, s, p) f r => by
    have h : sumN (fun i => tWk (.node a b (k, n, s, p) f r) (i + 1)) (tlen r) = sumN (tWk r) (tlen r) := sumN_eq _ fun i _ => rfl
    rw [tlen, sumN_shift, h, tW, tW_sum r]
    show _ = _ + ((s.size + p.length + tW f) + _)
    omega

set_option maxHeartbeats 1000000 in
theorem szInts_any (n c : Nat) (a : Option Addr) (l : Int) (w : World) (hn : n ≤ 9223372036854775807) (h0 : 0 ≤ l) (h1 : l ≤ 1048576) :
    Calls Tryz.prog 131 #[.slice a n c, .int .i64 l] w (SzP n (n ≤ 1048576) l w) := by
  by_cases hb : l - n < 0
  · go_enter Tryz.func131, Tryz.ntmps131
    go_wp2_with fail
    go_ret
    exact ⟨-1, rfl, by omega, by omega, by omega, Ex.refl _⟩
  · go_enter Tryz.func131, Tryz.ntmps131
    go_wp2_with fail
    go_ret
    exact ⟨l - n, rfl, by omega, by omega, fun _ => ⟨by omega, by omega⟩, Ex.refl _⟩

/-- All texts are of a length that is one. -/
def XLm (p : List ByteArray) : Prop := ∀ i, i < p.length → (p.getD i ⟨#[]⟩).size ≤ 9223372036854775807

set_option maxHeartbeats 1000000 in
theorem szTexts_any (p : List ByteArray) (a : Option Addr) (c : Nat) (l : Int) (w : World) (hlen : p.length ≤ 9223372036854775807) (hs : XLm p) (h0 : 0 ≤ l) (h1 : l ≤ 1048576) (hT : XA w 0 p a) :
    Calls Tryz.prog 47 #[.slice a p.length c, .int .i64 l] w (SzP (xW p) (p.length ≤ 1048576) l w) := by
  have T : Hid (∀ w', Ex w w' → XA w' 0 p a) := fun _ h => XA_below hT h
  have S : Hid (XLm p) := hs
  clear hT hs
  by_cases hneg : l - p.length < 0
  · go_enter Tryz.func47, Tryz.ntmps47
    go_wp2_with fail
    go_ret
    exact ⟨-1, rfl, by omega, by omega, fun h => by omega, Ex.refl _⟩
  · go_enter Tryz.func47, Tryz.ntmps47
    go_wp2_with fail
    go_loopw [1, 5] (fun lv i wr => ∃ (k : Nat) (x : Int), k ≤ p.length ∧ i = .int .i64 k ∧ lv = .int .i64 x ∧ 0 ≤ x ∧ x + (p.length + sumN (fun i => (p.getD i ⟨#[]⟩).size) k : Nat) ≤ l ∧ Ex w wr) (fun _ i _ => p.length - (intOf i).toNat)
    case atStart => exact ⟨0, l - p.length, Nat.zero_le _, rfl, rfl, by omega, by simp only [sumN]; omega, Ex.refl _⟩
    case round =>
      obtain ⟨k, x, hk, rfl, rfl, hx0, hxl, hx⟩ := hrel
      have X : Hid (Ex w wr) := hx
      have HX : Hid (x + (p.length + sumN (fun i => (p.getD i ⟨#[]⟩).size) k : Nat) ≤ l) := hxl
      have hxm : x ≤ l := by omega
      clear hx hxl
      by_cases hlt : k < p.length
      · obtain ⟨b, o, rfl, hbs, _, hc⟩ := XA_at (T.out wr X.out) (by omega)
        have ck := hc k hlt
        have hz := S.out k hlt
        obtain ⟨t, ht⟩ : ∃ t, p.getD k ⟨#[]⟩ = t := ⟨_, rfl⟩
        rw [ht] at ck hz
        have HS : Hid ((p.getD k ⟨#[]⟩).size = t.size) := by show _ = _; rw [ht]
        clear hc ht
        by_cases hy : x - t.size < 0
        · go_wp2_with fail
          go_ret
          exact ⟨-1, rfl, by omega, by omega, fun h => by omega, X.out⟩
        · have HX2 : Hid (x - t.size + (p.length + sumN (fun i => (p.getD i ⟨#[]⟩).size) (k + 1) : Nat) ≤ l) := by
            have q1 := HX.out
            have q2 := HS.out
            show _ ≤ _
            simp only [sumN]
            omega
          go_wp2_with fail
          go_roundw
          case rel => exact ⟨k + 1, x - t.size, by omega, by go_num, rfl, by omega, HX2.out, X.out⟩
          case measure => simp [intOf]; omega
      · have hkl : k = p.length := by omega
        have HX2 : Hid (x + (xW p : Nat) ≤ l) := by
          have q1 := HX.out
          rw [hkl] at q1
          exact q1
        clear hkl
        go_wp2_with fail
        go_ret
        exact ⟨x, rfl, by omega, by omega, fun _ => ⟨by omega, HX2.out⟩, X.out⟩

/-- All lists and names are of a length that is one. -/
def TLm : TM → Prop
  | .nil => True
  | .node _ _ (_, _, s, p) k r => s.size ≤ 9223372036854775807 ∧ p.length ≤ 9223372036854775807 ∧ tlen k ≤ 9223372036854775807 ∧ TLm k ∧ TLm r
theorem TLm_at : ∀ {f : TM}, TLm f → ∀ i, i < tlen f → (tname f i).size ≤ 9223372036854775807 ∧ (tpath f i).length ≤ 9223372036854775807 ∧ tlen (tkid f i) ≤ 9223372036854775807 ∧ TLm (tkid f i)
  | .nil, _, i, h => by simp [tlen] at h
  | .node _ _ (_, _, _, _) k r, hs, 0, _ => ⟨hs.1, hs.2.1, hs.2.2.1, hs.2.2.2.1⟩
  | .node _ _ (_, _, _, _) k r, hs, i + 1, h => TLm_at hs.2.2.2.2 i (by simp only [tlen] at h; omega)

/-- Small, as far as it goes. -/
def TSmTo (f : TM) (k : Nat) : Prop := ∀ j, j < k → (tpath f j).length ≤ 1048576 ∧ tlen (tkid f j) ≤ 1048576 ∧ TSm (tkid f j)
theorem TSm_of : ∀ {f : TM}, TSmTo f (tlen f) → TSm f
  | .nil, _ => trivial
  | .node _ _ (_, _, _, p) k r, h => by
    have h0 := h 0 (by simp [tlen])
    simp only [tpath, tkid] at h0
    exact ⟨by omega, by omega, h0.2.2, TSm_of fun j hj => h (j + 1) (by simp only [tlen]; omega)⟩

set_option maxRecDepth 100000 in
set_option maxHeartbeats 2000000 in
theorem szTermS_by (f : TM) (a : Option Addr) (c : Nat) (l : Int) (w : World) (hlen : tlen f ≤ 9223372036854775807) (h0 : 0 ≤ l) (h1 : l ≤ 1048576) (hT : MA w 0 f a)
    (hK : ∀ j, j < tlen f → ∀ (pa : Option Addr) (pc : Nat) (a' : Option Addr) (c' : Nat) (m : Int) (w' : World), Ex w w' → 0 ≤ m → m ≤ 1048576 → MA w' 0 (tkid f j) a' → Calls Tryz.prog 103 #[.agg #[.int .i64 (tkind f j), .int .i64 (tnum f j), .string (tname f j), .slice pa (tpath f j).length pc, .slice a' (tlen (tkid f j)) c'], .int .i64 m] w' (SzP (tWk f j) ((tpath f j).length ≤ 1048576 ∧ tlen (tkid f j) ≤ 1048576 ∧ TSm (tkid f j)) m w')) :
    Calls Tryz.prog 74 #[.slice a (tlen f) c, .int .i64 l] w (SzP (tW f) (tlen f ≤ 1048576 ∧ TSm f) l w) := by
  have T : Hid (∀ w', Ex w w' → MA w' 0 f a) := fun _ h => MA_below hT h
  have I : Hid _ := hK
  clear hT hK
  by_cases hneg : l - tlen f < 0
  · go_enter Tryz.func74, Tryz.ntmps74
    go_wp2_with fail
    go_ret
    exact ⟨-1, rfl, by omega, by omega, fun h => by omega, Ex.refl _⟩
  · go_enter Tryz.func74, Tryz.ntmps74
    go_wp2_with fail
    go_loopw [1, 5] (fun lv i wr => ∃ (k : Nat) (x : Int), k ≤ tlen f ∧ i = .int .i64 k ∧ lv = .int .i64 x ∧ 0 ≤ x ∧ x + (tlen f + sumN (tWk f) k : Nat) ≤ l ∧ TSmTo f k ∧ Ex w wr) (fun _ i _ => tlen f - (intOf i).toNat)
    case atStart => exact ⟨0, l - tlen f, Nat.zero_le _, rfl, rfl, by omega, by simp only [sumN]; omega, fun j hj => by omega, Ex.refl _⟩
    case round =>
      obtain ⟨j, x, hk, rfl, rfl, hx0, hxl, hsm, hx⟩ := hrel
      have ST : Hid (TSmTo f j) := hsm
      have HX : Hid (x + (tlen f + sumN (tWk f) j : Nat) ≤ l) := hxl
      have hxm : x ≤ l := by omega
      clear hxl
      have X : Hid (Ex w wr) := hx
      clear hsm hx
      by_cases hlt : j < tlen f
      · obtain ⟨b, o, rfl, _, hbs, hk⟩ := MA_at (T.out wr X.out) (by omega)
        obtain ⟨e0, e1, e2, ⟨pa, pc, e3, hp'⟩, a', c', e4, hm'⟩ := hk j hlt
        have HI : Hid _ := I.out j hlt pa pc a' c' x wr X.out hx0 (by omega) hm'
        clear hk hp' hm'
        go_wp2_with fail
        refine Calls.mono HI.out ?_
        rintro e w1 ⟨y, rfl, hy0, hy1, hyf, hb1⟩
        have YF : Hid (0 ≤ y → (tpath f j).length ≤ 1048576 ∧ tlen (tkid f j) ≤ 1048576 ∧ TSm (tkid f j)) := fun h => (hyf h).1
        have YW : Hid (0 ≤ y → y + (tWk f j : Nat) ≤ x) := fun h => (hyf h).2
        have X1 : Hid (Ex w w1) := X.out.trans hb1
        clear hyf hb1 HI
        by_cases hy : y < 0
        · go_wp2_with fail
          go_ret
          exact ⟨-1, rfl, by omega, by omega, fun h => by omega, X1.out⟩
        · have HS : Hid (TSmTo f (j + 1)) := fun i hi => by
            by_cases hj' : i < j
            · exact ST.out i hj'
            · have e : i = j := by omega
              subst e
              exact YF.out (by omega)
          have HX2 : Hid (y + (tlen f + sumN (tWk f) (j + 1) : Nat) ≤ l) := by
            have q1 := HX.out
            have q2 := YW.out (by omega)
            show _ ≤ _
            simp only [sumN]
            omega
          go_wp2_with fail
          go_roundw
          case rel => exact ⟨j + 1, y, by omega, by go_num, rfl, by omega, HX2.out, HS.out, X1.out⟩
          case measure => simp [intOf]; omega
      · have hjl : j = tlen f := by omega
        have HS : Hid _ := TSm_of (hjl ▸ ST.out)
        have HX2 : Hid (x + (tW f : Nat) ≤ l) := by
          have q1 := HX.out
          rw [hjl] at q1
          show _ ≤ _
          rw [tW_sum]
          exact q1
        clear hjl
        go_wp2_with fail
        go_ret
        exact ⟨x, rfl, by omega, by omega, fun _ => ⟨⟨by omega, HS.out⟩, HX2.out⟩, X.out⟩

set_option maxRecDepth 100000 in
set_option maxHeartbeats 2000000 in
theorem szTerm_by (k n : Int) (s : ByteArray) (np : Nat) (pa : Option Addr) (pc : Nat) (f : TM) (a : Option Addr) (c : Nat) (l : Int) (w : World) (hs : s.size ≤ 9223372036854775807) (hnp : np ≤ 9223372036854775807) (hK : ∀ (m : Int) (w' : World), Ex w w' → 0 ≤ m → m ≤ 1048576 → Calls Tryz.prog 74 #[.slice a (tlen f) c, .int .i64 m] w' (SzP (tW f) (tlen f ≤ 1048576 ∧ TSm f) m w')) (h0 : 0 ≤ l) (h1 : l ≤ 1048576) :
    Calls Tryz.prog 103 #[.agg #[.int .i64 k, .int .i64 n, .string s, .slice pa np pc, .slice a (tlen f) c], .int .i64 l] w (SzP (s.size + np + tW f) (np ≤ 1048576 ∧ tlen f ≤ 1048576 ∧ TSm f) l w) := by
  have N : Hid (Ex w (w.alloc (.cells #[.int .i64 k, .int .i64 n, .string s, .slice pa np pc, .slice a (tlen f) c] 162))) := Ex.new _ _
  have C : Hid (∀ w', Ex (w.alloc (.cells #[.int .i64 k, .int .i64 n, .string s, .slice pa np pc, .slice a (tlen f) c] 162)) w' → w'.cell? ⟨w.heap.size, 0, none⟩ = some (.int .i64 k) ∧ w'.cell? ⟨w.heap.size, 1, none⟩ = some (.int .i64 n) ∧ w'.cell? ⟨w.heap.size, 2, none⟩ = some (.string s) ∧ w'.cell? ⟨w.heap.size, 3, none⟩ = some (.slice pa np pc) ∧ w'.cell? ⟨w.heap.size, 4, none⟩ = some (.slice a (tlen f) c)) := fun w' h => ⟨h.at (by simp), h.at (by simp), h.at (by simp), h.at (by simp), h.at (by simp)⟩
  by_cases hb1 : l - s.size < 0
  · go_enter Tryz.func103, Tryz.ntmps103
    go_wp2_with fail
    go_ret
    exact ⟨-1, rfl, by omega, by omega, fun h => by omega, N.out⟩
  obtain ⟨m1, hm1⟩ : ∃ m : Int, m = l - s.size := ⟨_, rfl⟩
  have hp1 : 0 ≤ m1 := by omega
  have HV1 : Hid (m1 + (s.size : Nat) ≤ l) := by show _ ≤ _; omega
  have hq1 : m1 ≤ l := by omega
  go_enter Tryz.func103, Tryz.ntmps103
  go_wp2_with fail
  rw [← hm1]
  clear hb1 hm1
  refine (szInts_any np pc pa m1 _ hnp (by omega) (by omega)).mono ?_
  rintro e w2 ⟨x2, rfl, hxa2, hxb2, hxf2, hxe2⟩
  have F2 : Hid (0 ≤ x2 → np ≤ 1048576) := fun h => (hxf2 h).1
  have HV2 : Hid (0 ≤ x2 → x2 + (np : Nat) ≤ m1) := fun h => (hxf2 h).2
  have X2 : Hid (Ex (w.alloc (.cells #[.int .i64 k, .int .i64 n, .string s, .slice pa np pc, .slice a (tlen f) c] 162)) w2) := hxe2
  have hr2 : x2 ≤ l := by omega
  clear hxf2 hxe2
  obtain ⟨c0, c1, c2, c3, c4⟩ := C.out w2 X2.out
  by_cases hx2 : x2 < 0
  · go_wp2_with fail
    go_ret
    exact ⟨-1, rfl, by omega, by omega, fun h => by omega, (N.out.trans X2.out)⟩
  go_wp2_with fail
  refine (hK x2 _ (N.out.trans X2.out) (by omega) (by omega)).mono ?_
  rintro e w3 ⟨x3, rfl, hxa3, hxb3, hxf3, hxe3⟩
  have F3 : Hid (0 ≤ x3 → tlen f ≤ 1048576 ∧ TSm f) := fun h => (hxf3 h).1
  have HV3 : Hid (0 ≤ x3 → x3 + (tW f : Nat) ≤ x2) := fun h => (hxf3 h).2
  have X3 : Hid (Ex (w.alloc (.cells #[.int .i64 k, .int .i64 n, .string s, .slice pa np pc, .slice a (tlen f) c] 162)) w3) := X2.out.trans hxe3
  have hr3 : x3 ≤ l := by omega
  clear hxf3 hxe3
  clear c0 c1 c2 c3 c4
  obtain ⟨c0, c1, c2, c3, c4⟩ := C.out w3 X3.out
  by_cases hx3 : x3 < 0
  · go_wp2_with fail
    go_ret
    exact ⟨-1, rfl, by omega, by omega, fun h => by omega, (N.out.trans X3.out)⟩
  go_wp2_with fail
  go_ret
  exact ⟨x3, rfl, by omega, by omega, fun _ => ⟨⟨F2.out (by omega), F3.out (by omega)⟩, by have v1 := HV1.out; have v2 := HV2.out (by omega); have v3 := HV3.out (by omega); omega⟩, (N.out.trans X3.out)⟩

theorem szTermS_all : ∀ (d : Nat) (f : TM) (a : Option Addr) (c : Nat) (l : Int) (w : World), tdep f < d → tlen f ≤ 9223372036854775807 → TLm f → 0 ≤ l → l ≤ 1048576 → MA w 0 f a →
    Calls Tryz.prog 74 #[.slice a (tlen f) c, .int .i64 l] w (SzP (tW f) (tlen f ≤ 1048576 ∧ TSm f) l w) := by
  intro d
  induction d with
  | zero => intro f a c l w hd; omega
  | succ d ih =>
    intro f a c l w hd hl hm h0 h1 hT
    refine szTermS_by f a c l w hl h0 h1 hT fun j hj pa pc a' c' m w' _ hm0 hm1 hk => ?_
    obtain ⟨g1, g2, g3, g4⟩ := TLm_at hm j hj
    have hdj := tdep_kid f j hj
    exact szTerm_by _ _ _ _ pa pc _ a' c' m w' g1 g2 (fun m2 w2 hx2 hm2 hm3 => ih _ a' c' m2 w2 (by omega) g3 g4 hm2 hm3 (MA_below hk hx2)) hm0 hm1

theorem szTermS_any (f : TM) (a : Option Addr) (c : Nat) (l : Int) (w : World) (hl : tlen f ≤ 9223372036854775807) (hm : TLm f) (h0 : 0 ≤ l) (h1 : l ≤ 1048576) (hT : MA w 0 f a) :
    Calls Tryz.prog 74 #[.slice a (tlen f) c, .int .i64 l] w (SzP (tW f) (tlen f ≤ 1048576 ∧ TSm f) l w) := szTermS_all (tdep f + 1) f a c l w (by omega) hl hm h0 h1 hT

end Go.Proofs.YtgpdnoghlommeaaGreatDoor

namespace Go.Proofs.YtgpdnoghlommeaaGreatDoor

open Go.RowKit Go.Deep Go.Maps Go.WideMaps

attribute [local go_sem ↓] Go.wp_at_zero Go.wp_at_succ

theorem take_snoc {p : List ByteArray} {k : Nat} (h : k < p.length) : p.take (k + 1) = p.take k ++ [p.getD k ⟨#[]⟩] := by
  rw [List.take_add_one, List.getElem?_eq_getElem h]
  simp [List.getD, h]

/-- Behind names that were bound. -/
def BindP (mb n : Nat) (ns p : List ByteArray) (w : World) (e : Ending) (w' : World) : Prop := e = .returned (.tuple #[]) ∧ CM w' mb (n + p.length) (ns ++ p) ∧ Fr mb w w'
set_option maxRecDepth 100000 in
set_option maxHeartbeats 2000000 in
theorem bind_any (aa : Option Addr) (al ac mb n : Nat) (ns p : List ByteArray) (xa : Option Addr) (xc : Nat) (w : World) (hC : CM w mb n ns) (hX : ∀ w', Fr mb w w' → XA w' 0 p xa) (hz : XLm p) (hn : n + p.length ≤ 999999) (hns : ns.length + p.length ≤ 999999) :
    Calls Tryz.prog 112 #[.agg #[.slice aa al ac, .map (some mb)], .slice xa p.length xc] w (BindP mb n ns p w) := by
  have hlt := hC.lt
  have N : Hid (Fr mb w (w.alloc (.cells #[.slice aa al ac, .map (some mb)] 171))) := Fr.of_ex (Ex.new _ _) _
  have C : Hid (∀ w', Fr mb (w.alloc (.cells #[.slice aa al ac, .map (some mb)] 171)) w' → w'.cell? ⟨w.heap.size, 1, none⟩ = some (.map (some mb))) := fun w' h => h.at (by show w.heap.size ≠ mb; omega) (by simp)
  have C0 : Hid (CM (w.alloc (.cells #[.slice aa al ac, .map (some mb)] 171)) mb n ns) := hC.ex (Ex.new _ _)
  have X : Hid (∀ w', Fr mb w w' → XA w' 0 p xa) := hX
  have Z : Hid (XLm p) := hz
  clear hC hX hz hlt
  go_enter Tryz.func112, Tryz.ntmps112
  go_wp2_with fail
  go_loopw [5, 8] (fun _ i wr => ∃ k : Nat, k ≤ p.length ∧ i = .int .i64 k ∧ CM wr mb (n + k) (ns ++ p.take k) ∧ Fr mb (w.alloc (.cells #[.slice aa al ac, .map (some mb)] 171)) wr) (fun _ i _ => p.length - (intOf i).toNat)
  case atStart => exact ⟨0, Nat.zero_le _, rfl, by rw [List.take_zero, List.append_nil]; exact C0.out, Fr.refl _ _⟩
  case round =>
    obtain ⟨k, hk, rfl, hCk, hF⟩ := hrel
    have CK : Hid _ := hCk
    have F : Hid (Fr mb (w.alloc (.cells #[.slice aa al ac, .map (some mb)] 171)) wr) := hF
    have cm := C.out wr hF
    clear hF
    by_cases hlt : k < p.length
    · obtain ⟨b, o, rfl, hbs, _, hc⟩ := XA_at (X.out wr (N.out.trans F.out)) (by omega)
      have ck := hc k hlt
      have hsz := Z.out k hlt
      have TS : Hid (p.take (k + 1) = p.take k ++ [p.getD k ⟨#[]⟩]) := take_snoc hlt
      obtain ⟨s, hs⟩ : ∃ s, p.getD k ⟨#[]⟩ = s := ⟨_, rfl⟩
      rw [hs] at ck hsz TS
      clear hc hs
      have hrun := hCk.look hsz
      have hcl := cntN_le (ns ++ p.take k) s
      rw [List.length_append, List.length_take] at hcl
      obtain ⟨c, hce⟩ : ∃ c, cntN (ns ++ p.take k) s = c := ⟨_, rfl⟩
      rw [hce] at hrun hcl
      have HV : Hid (Value.int .i64 ((c : Int) + 1) = Value.int .i64 ((cntN (ns ++ p.take k) s : Int) + 1)) := by show _ = _; rw [hce]
      have hcb : c ≤ 999999 := by omega
      have hl2 : (ns ++ p.take k).length < 1000000 := by rw [List.length_append, List.length_take]; omega
      have L2 : Hid _ := hl2
      have SZ : Hid _ := hsz
      clear hce hCk hcl hl2 hsz
      go_wp2_with (at_mapUpdate; refine wpList_count rfl _ _ _ rfl mb (n + k) (ns ++ p.take k) s SZ.out rfl CK.out (by omega) L2.out rfl HV.out ?_)
      intro w1 hC1 hF1
      have CN : Hid (CM w1 mb (n + (k + 1)) (ns ++ p.take (k + 1))) := by
        show CM _ _ _ _
        rw [TS.out, ← Nat.add_assoc]; first | exact hC1 | (rw [← List.append_assoc]; exact hC1)
      have F1 : Hid (Fr mb (w.alloc (.cells #[.slice aa al ac, .map (some mb)] 171)) w1) := F.out.trans hF1
      clear hC1 hF1 hrun cm ck CK
      go_wp2_with fail
      go_roundw
      case rel => exact ⟨k + 1, by omega, by go_num, CN.out, F1.out⟩
      case measure => simp [intOf]; omega
    · have CE : Hid (CM wr mb (n + p.length) (ns ++ p)) := by
        show CM _ _ _ _
        have e : k = p.length := by omega
        have := CK.out
        rw [e, List.take_length] at this; exact this
      clear hCk cm
      go_wp2_with fail
      go_end0
      exact ⟨rfl, CE.out, N.out.trans F.out⟩

/-- Names that may be bound together. -/
def namesB (nm : List ByteArray) : Bool := decide (nm.length ≤ 60) && uniqB nm

set_option maxRecDepth 100000 in
set_option maxHeartbeats 2000000 in
theorem namesOk_any (p : List ByteArray) (xa : Option Addr) (xc : Nat) (w : World) (hz : XLm p) (hX : XA w 0 p xa) :
    Calls Tryz.prog 111 #[.slice xa p.length xc] w fun e w' => e = .returned (.bool (namesB p)) ∧ Ex w w' := by
  have X : Hid (∀ w', Ex w w' → XA w' 0 p xa) := fun _ h => XA_below hX h
  have Z : Hid (XLm p) := hz
  clear hX hz
  obtain ⟨R, hR⟩ : ∃ R, R = namesB p := ⟨_, rfl⟩
  have RR : Hid (R = namesB p) := hR
  rw [← hR]
  clear hR
  by_cases h60 : 60 < p.length
  · have HR : Hid (R = false) := RR.out.trans (by rw [namesB, decide_eq_false (by omega)]; rfl)
    have d1 : decide ((60 : Int) < (p.length : Int)) = true := decide_eq_true (by omega)
    go_enter Tryz.func111, Tryz.ntmps111
    go_wp2_with fail
    go_ret
    exact ⟨ret_b HR.out.symm, Ex.refl _⟩
  have R2 : Hid (R = uniqB p) := RR.out.trans (by rw [namesB, decide_eq_true (by omega)]; rfl)
  have d1 : decide ((60 : Int) < (p.length : Int)) = false := decide_eq_false (by omega)
  have hmm := @run_makeMap Tryz.prog
  clear RR
  go_enter Tryz.func111, Tryz.ntmps111
  go_wp2_with fail
  go_loopw [5, 12] (fun _ i wr => ∃ k : Nat, k ≤ p.length ∧ i = .int .i64 k ∧ CM wr w.heap.size k (p.take k) ∧ (∀ j, j < k → uniqAt p j = true) ∧ Ex w wr) (fun _ i _ => p.length - (intOf i).toNat)
  case atStart => exact ⟨0, Nat.zero_le _, rfl, by rw [List.take_zero]; exact CM_made w, fun j hj => by omega, Ex.new _ _⟩
  case round =>
    obtain ⟨k, hk, rfl, hCk, hall, hx⟩ := hrel
    have CK : Hid _ := hCk
    have A : Hid (∀ j, j < k → uniqAt p j = true) := hall
    have E : Hid (Ex w wr) := hx
    clear hall hx hmm
    by_cases hlt : k < p.length
    · obtain ⟨b, o, rfl, hbs, _, hc⟩ := XA_at (X.out wr E.out) (by omega)
      have ck := hc k hlt
      have hsz := Z.out k hlt
      have TS : Hid (p.take (k + 1) = p.take k ++ [p.getD k ⟨#[]⟩]) := take_snoc hlt
      have U : Hid (uniqAt p k = true → ∀ j, j < k + 1 → uniqAt p j = true) := fun h => upto_succ A.out h
      have V : Hid (uniqAt p k = false → R = false) := fun h => R2.out.trans (uniqB_no hlt h)
      have UA : Hid (uniqAt p k = (wordB (p.getD k ⟨#[]⟩) && !hasB (p.take k) (p.getD k ⟨#[]⟩))) := rfl
      obtain ⟨s, hs⟩ : ∃ s, p.getD k ⟨#[]⟩ = s := ⟨_, rfl⟩
      rw [hs] at ck hsz TS UA
      clear hc hs
      have hrun := hCk.look hsz
      have hcl := cntN_le (p.take k) s
      rw [List.length_take] at hcl
      have HB : Hid (hasB (p.take k) s = decide (cntN (p.take k) s ≠ 0)) := cntN_has _ _
      have HN : Hid (cntN (p.take k ++ [s]) s = cntN (p.take k) s + 1) := by show _ = _; rw [cntN_snoc, if_pos (by simp)]
      obtain ⟨c, hce⟩ : ∃ c, cntN (p.take k) s = c := ⟨_, rfl⟩
      rw [hce] at hrun hcl HB HN
      have HV : Hid (Value.int .i64 ((c : Int) + 1) = Value.int .i64 ((cntN (p.take k) s : Int) + 1)) := by show _ = _; rw [hce]
      have hcb : c ≤ 999999 := by omega
      have hl2 : (p.take k).length < 1000000 := by rw [List.length_take]; omega
      have L2 : Hid _ := hl2
      have SZ : Hid _ := hsz
      clear hce hCk hcl hl2 hsz
      go_wp2_with (at_mapUpdate; refine wpList_count rfl _ _ _ rfl w.heap.size k (p.take k) s SZ.out rfl CK.out (by omega) L2.out rfl HV.out ?_)
      intro w1 hC1 hF1
      have hrun2 := hC1.look SZ.out
      rw [HN.out] at hrun2
      have e2 : ((c + 1 : Nat) : Int) = (c : Int) + 1 := by omega
      rw [e2] at hrun2
      have CN : Hid (CM w1 w.heap.size (k + 1) (p.take (k + 1))) := by
        show CM _ _ _ _
        rw [TS.out]; exact hC1
      have E1 : Hid (Ex w w1) := hF1.to_ex E.out (Nat.le_refl _)
      clear hC1 hF1 hrun CK e2
      by_cases h0 : c = 0
      · have g1 : decide ((1 : Int) < (c : Int) + 1) = false := decide_eq_false (by omega)
        have H0 : Hid (hasB (p.take k) s = false) := HB.out.trans (decide_eq_false (by omega))
        clear h0
        go_wp2_with fail
        refine (nameOk_any s _).mono ?_
        rintro e w2 ⟨rfl, hb2⟩
        cases hw : wordB s with
        | false =>
          have HR : Hid (R = false) := V.out (by rw [UA.out, hw]; rfl)
          go_wp2_with fail
          go_ret
          exact ⟨ret_b HR.out.symm, E1.out.trans hb2⟩
        | true =>
          have HU : Hid _ := U.out (by rw [UA.out, hw, H0.out]; rfl)
          have CE : Hid (CM w2 w.heap.size (k + 1) (p.take (k + 1))) := CN.out.ex hb2
          clear hw
          go_wp2_with fail
          go_roundw
          case rel => exact ⟨k + 1, by omega, by go_num, CE.out, HU.out, E1.out.trans hb2⟩
          case measure => simp [intOf]; omega
      · have g1 : decide ((1 : Int) < (c : Int) + 1) = true := decide_eq_true (by omega)
        have HR : Hid (R = false) := V.out (by rw [UA.out, HB.out, decide_eq_true h0]; simp)
        clear h0
        go_wp2_with fail
        go_ret
        exact ⟨ret_b HR.out.symm, E1.out⟩
    · have HR : Hid (R = true) := R2.out.trans (uniqB_yes fun i hi => A.out i (by omega))
      go_wp2_with fail
      go_ret
      exact ⟨ret_b HR.out.symm, E.out⟩

end Go.Proofs.YtgpdnoghlommeaaGreatDoor

namespace Go.Proofs.YtgpdnoghlommeaaGreatDoor

open Go.RowKit Go.Deep Go.Maps Go.WideMaps

attribute [local go_sem ↓] Go.wp_at_zero Go.wp_at_succ

theorem pathB_none {p : List Int} (h : p.length = 0) : pathB p = true := by
  have := List.length_eq_zero_iff.mp h
  subst this; rfl
theorem own_tok (ns : List ByteArray) (k n : Int) (s : ByteArray) (p : List Int) (l : Nat) : ((decide (l ≤ 2) && decide (p.length ≤ 4)) && (pathB p && ownB ns k n s p l)) = (tokB k n s p l && (!decide (k = 2) || hasB ns s)) := by
  by_cases k1 : k = 1
  · subst k1
    by_cases hs : s.size = 0
    · by_cases hp : p.length = 0
      · rw [ownB_1 hs hp, tokB_1, pathB_none hp, decide_eq_true hs, decide_eq_true hp, decide_eq_true (show p.length ≤ 4 by omega)]
        by_cases hl : l = 0
        · subst hl; simp
        · simp [hl]
      · rw [ownB_p (by decide) hp, tokB_1, decide_eq_true hs, decide_eq_false hp]; simp
    · rw [ownB_s (by decide) hs, tokB_1, decide_eq_false hs]; simp
  by_cases k2 : k = 2
  · subst k2
    by_cases hn : n = 0
    · by_cases hp : p.length = 0
      · rw [ownB_2 hn hp, tokB_2, pathB_none hp, decide_eq_true hn, decide_eq_true hp, decide_eq_true (show p.length ≤ 4 by omega)]
        by_cases hl : l = 0
        · subst hl; simp
        · simp [hl]
      · rw [ownB_p (by decide) hp, tokB_2, decide_eq_true hn, decide_eq_false hp]; simp
    · rw [ownB_n (by decide) hn, tokB_2, decide_eq_false hn]; simp
  rw [decide_eq_false k2]
  by_cases k7 : k = 7
  · subst k7
    by_cases hn : n = 0
    · by_cases hs : s.size = 0
      · rw [ownB_7 hn hs, tokB_7, decide_eq_true hn, decide_eq_true hs]
        by_cases hl : l = 1
        · subst hl; simp
        · simp [hl]
      · rw [ownB_s (by decide) hs, tokB_7, decide_eq_true hn, decide_eq_false hs]; simp
    · rw [ownB_n (by decide) hn, tokB_7, decide_eq_false hn]; simp
  by_cases k8 : k = 8
  · subst k8
    by_cases hn : n = 0
    · by_cases hs : s.size = 0
      · rw [ownB_8 hn hs, tokB_8, decide_eq_true hn, decide_eq_true hs]
        by_cases hl : l = 2
        · subst hl; simp
        · simp [hl]
      · rw [ownB_s (by decide) hs, tokB_8, decide_eq_true hn, decide_eq_false hs]; simp
    · rw [ownB_n (by decide) hn, tokB_8, decide_eq_false hn]; simp
  by_cases hk : k = 3 ∨ k = 4 ∨ k = 5 ∨ k = 6
  · rw [tokB_3 hk]
    by_cases hn : n = 0
    · by_cases hs : s.size = 0
      · by_cases hp : p.length = 0
        · rw [ownB_o k1 k2 k7 hn hs hp, pathB_none hp, decide_eq_true hn, decide_eq_true hs, decide_eq_true hp, decide_eq_true (show p.length ≤ 4 by omega), decide_eq_true (show 3 ≤ k ∧ k ≤ 8 by omega)]
          by_cases hl : l = 2
          · subst hl; simp
          · simp [hl]
        · rw [ownB_p (by omega) hp, decide_eq_true hn, decide_eq_true hs, decide_eq_false hp]; simp
      · rw [ownB_s k2 hs, decide_eq_true hn, decide_eq_false hs]; simp
    · rw [ownB_n k1 hn, decide_eq_false hn]; simp
  · rw [tokB_o (by omega)]
    by_cases hn : n = 0
    · by_cases hs : s.size = 0
      · by_cases hp : p.length = 0
        · rw [ownB_o k1 k2 k7 hn hs hp, decide_eq_false (show ¬ (3 ≤ k ∧ k ≤ 8) by omega)]; simp
        · rw [ownB_p (by omega) hp]; simp
      · rw [ownB_s k2 hs]; simp
    · rw [ownB_n k1 hn]; simp

/-- All terms of a list are ok by names. -/
def kidsB (ns : List ByteArray) (d : Nat) (f : TM) : Bool := (List.range (tlen f)).all fun i => kidB ns d f i
theorem kidsB_no {ns : List ByteArray} {d : Nat} {f : TM} {i : Nat} (h : i < tlen f) (hb : kidB ns d f i = false) : kidsB ns d f = false := by
  simp only [kidsB]
  rw [List.all_eq_false]
  exact ⟨i, List.mem_range.2 h, by rw [hb]; simp⟩
theorem kidsB_yes {ns : List ByteArray} {d : Nat} {f : TM} (h : ∀ i, i < tlen f → kidB ns d f i = true) : kidsB ns d f = true := by
  simp only [kidsB]
  rw [List.all_eq_true]
  exact fun i hi => h i (List.mem_range.1 hi)
theorem termB_tok (ns : List ByteArray) (d : Nat) (k n : Int) (s : ByteArray) (p : List Int) (f : TM) : termB ns (d + 1) k n s p f = (tokB k n s p (tlen f) && ((!decide (k = 2) || hasB ns s) && kidsB ns d f)) := by
  have h := own_tok ns k n s p (tlen f)
  show ((decide (tlen f ≤ 2) && decide (p.length ≤ 4)) && (kidsB ns d f && (pathB p && ownB ns k n s p (tlen f)))) = _
  rw [← Bool.and_assoc (tokB _ _ _ _ _), ← h]
  cases kidsB ns d f <;> simp

/-- The fault, and none. -/
abbrev EV (ea : Addr) : Value := .iface 238 (.pointer (some ea))
def errV (ea : Addr) (ok : Bool) : Value := if ok then .nilIface else EV ea
def ErrP (ea : Addr) (ok : Bool) (w : World) (e : Ending) (w' : World) : Prop := e = .returned (errV ea ok) ∧ Ex w w'

set_option maxRecDepth 100000 in
set_option maxHeartbeats 2000000 in
theorem term_by (ea : Addr) (aa : Option Addr) (al ac mb m : Nat) (ns : List ByteArray) (k n : Int) (s : ByteArray) (p : List Int) (pa : Option Addr) (pc : Nat) (f : TM) (a : Option Addr) (c d : Nat) (hd : d ≤ 1000) (w : World)
    (hG : w.cell? ⟨0, 0, none⟩ = some (EV ea)) (hC : CM w mb m ns) (hs : s.size ≤ 9223372036854775807) (hP : PA w 0 p pa)
    (hK : ∀ w', Ex w w' → Calls Tryz.prog 137 #[.agg #[.slice aa al ac, .map (some mb)], .slice a (tlen f) c, .int .i64 d] w' (ErrP ea (kidsB ns d f) w')) :
    Calls Tryz.prog 147 #[.agg #[.slice aa al ac, .map (some mb)], .agg #[.int .i64 k, .int .i64 n, .string s, .slice pa p.length pc, .slice a (tlen f) c], .int .i64 (d + 1 : Nat)] w (ErrP ea (termB ns (d + 1) k n s p f) w) := by
  have G : Hid (∀ w', Ex w w' → w'.cell? ⟨0, 0, none⟩ = some (EV ea)) := fun w' h => h.at hG
  have CC : Hid (∀ w', Ex w w' → CM w' mb m ns) := fun w' h => hC.ex h
  have P : Hid (∀ w', Ex w w' → PA w' 0 p pa) := fun _ h => PA_below hP h
  have K : Hid _ := hK
  have SZ : Hid _ := hs
  have N : Hid (Ex w ((w.alloc (.cells #[.slice aa al ac, .map (some mb)] 171)).alloc (.cells #[.int .i64 k, .int .i64 n, .string s, .slice pa p.length pc, .slice a (tlen f) c] 90))) := (Ex.new _ _).alloc _
  have C : Hid (∀ w', Ex ((w.alloc (.cells #[.slice aa al ac, .map (some mb)] 171)).alloc (.cells #[.int .i64 k, .int .i64 n, .string s, .slice pa p.length pc, .slice a (tlen f) c] 90)) w' → w'.cell? ⟨w.heap.size, 0, none⟩ = some (.slice aa al ac) ∧ w'.cell? ⟨w.heap.size, 1, none⟩ = some (.map (some mb)) ∧ w'.cell? ⟨w.heap.size + 1, 0, none⟩ = some (.int .i64 k) ∧ w'.cell? ⟨w.heap.size + 1, 1, none⟩ = some (.int .i64 n) ∧ w'.cell? ⟨w.heap.size + 1, 2, none⟩ = some (.string s) ∧ w'.cell? ⟨w.heap.size + 1, 3, none⟩ = some (.slice pa p.length pc) ∧ w'.cell? ⟨w.heap.size + 1, 4, none⟩ = some (.slice a (tlen f) c)) := fun w' h => ⟨h.at (by simp), h.at (by simp), h.at (by simp), h.at (by simp), h.at (by simp), h.at (by simp), h.at (by simp)⟩
  have HT : Hid (termB ns (d + 1) k n s p f = (tokB k n s p (tlen f) && ((!decide (k = 2) || hasB ns s) && kidsB ns d f))) := termB_tok ns d k n s p f
  obtain ⟨R, hR⟩ : ∃ R, R = termB ns (d + 1) k n s p f := ⟨_, rfl⟩
  rw [← hR] at HT ⊢
  obtain ⟨bt, hbt⟩ : ∃ b, tokB k n s p (tlen f) = b := ⟨_, rfl⟩
  have TO : Hid (∀ w', Ex w w' → Calls Tryz.prog 160 #[.agg #[.int .i64 k, .int .i64 n, .string s, .slice pa p.length pc, .slice a (tlen f) c]] w' fun e w'' => e = .returned (.bool bt) ∧ Ex w' w'') := fun w' h => by have := termOk_any k n s p pa pc (tlen f) a c w' (P.out w' h); rw [hbt] at this; exact this
  rw [hbt] at HT
  obtain ⟨D, hD⟩ : ∃ D : Int, D = ((d + 1 : Nat) : Int) := ⟨_, rfl⟩
  rw [← hD]
  have d0 : (D == 0) = false := by rw [beq_eq_false_iff_ne]; omega
  have d3 : D - 1 = (d : Int) := by omega
  have d4 : IntKind.i64.wrap (D - 1) = (d : Int) := by rw [d3]; exact IntWalk.i64_in _ (by omega)
  clear hR hbt hG hC hP hK hs hD P
  go_enter Tryz.func147, Tryz.ntmps147
  go_wp2_with fail
  refine (TO.out _ N.out).mono ?_
  rintro e w1 ⟨rfl, hb1⟩
  have X1 : Hid (Ex ((w.alloc (.cells #[.slice aa al ac, .map (some mb)] 171)).alloc (.cells #[.int .i64 k, .int .i64 n, .string s, .slice pa p.length pc, .slice a (tlen f) c] 90)) w1) := hb1
  obtain ⟨c0, c1, c2, c3, c4, c5, c6⟩ := C.out w1 hb1
  have g0 := G.out w1 (N.out.trans hb1)
  clear hb1 TO
  cases bt with
  | false =>
    have HR : Hid (R = false) := HT.out
    go_wp2_with fail
    go_ret
    exact ⟨by rw [HR.out]; rfl, N.out.trans X1.out⟩
  | true =>
    have FIN : Hid (∀ w', Ex ((w.alloc (.cells #[.slice aa al ac, .map (some mb)] 171)).alloc (.cells #[.int .i64 k, .int .i64 n, .string s, .slice pa p.length pc, .slice a (tlen f) c] 90)) w' → R = kidsB ns d f → Calls Tryz.prog 137 #[.agg #[.slice aa al ac, .map (some mb)], .slice a (tlen f) c, .int .i64 d] w' (ErrP ea R w')) := fun w' h hr => by rw [hr]; exact K.out w' (N.out.trans h)
    clear K
    by_cases k2 : k = 2
    · have q2 : (k == 2) = true := by rw [beq_iff_eq]; exact k2
      have hrun := (CC.out w1 (N.out.trans X1.out)).look SZ.out
      have hcl := cntN_le ns s
      have HB : Hid (hasB ns s = decide (cntN ns s ≠ 0)) := cntN_has _ _
      have HT2 : Hid (R = (hasB ns s && kidsB ns d f)) := HT.out.trans (by rw [decide_eq_true k2]; rfl)
      have K2 : Hid (k = 2) := k2
      obtain ⟨cn, hce⟩ : ∃ cn, cntN ns s = cn := ⟨_, rfl⟩
      rw [hce] at hrun hcl HB
      clear hce k2
      by_cases h0 : cn = 0
      · have e0 : ((cn : Int) == 0) = true := by rw [beq_iff_eq]; omega
        have HR : Hid (R = false) := HT2.out.trans (by rw [HB.out, decide_eq_false (by omega)]; rfl)
        clear h0
        go_wp2_with fail
        go_ret
        exact ⟨by rw [HR.out]; rfl, N.out.trans X1.out⟩
      · have e0 : ((cn : Int) == 0) = false := by rw [beq_eq_false_iff_ne]; omega
        have HR : Hid (R = kidsB ns d f) := HT2.out.trans (by rw [HB.out, decide_eq_true h0]; rfl)
        clear h0
        go_wp2_with fail
        refine (FIN.out _ X1.out HR.out).mono ?_
        rintro e w2 ⟨rfl, hb2⟩
        go_wp2_with fail
        go_ret
        exact ⟨rfl, N.out.trans (X1.out.trans hb2)⟩
    · have q2 : (k == 2) = false := by rw [beq_eq_false_iff_ne]; exact k2
      have HR : Hid (R = kidsB ns d f) := HT.out.trans (by rw [decide_eq_false k2]; rfl)
      go_wp2_with fail
      refine (FIN.out _ X1.out HR.out).mono ?_
      rintro e w2 ⟨rfl, hb2⟩
      go_wp2_with fail
      go_ret
      exact ⟨rfl, N.out.trans (X1.out.trans hb2)⟩

set_option maxRecDepth 100000 in
set_option maxHeartbeats 2000000 in
theorem term_zero (ea : Addr) (aa : Option Addr) (al ac mb : Nat) (k n : Int) (s : ByteArray) (p : List Int) (pa : Option Addr) (pc : Nat) (f : TM) (a : Option Addr) (c : Nat) (w : World) (hG : w.cell? ⟨0, 0, none⟩ = some (EV ea)) :
    Calls Tryz.prog 147 #[.agg #[.slice aa al ac, .map (some mb)], .agg #[.int .i64 k, .int .i64 n, .string s, .slice pa p.length pc, .slice a (tlen f) c], .int .i64 (0 : Nat)] w (ErrP ea false w) := by
  have g0 : ((w.alloc (.cells #[.slice aa al ac, .map (some mb)] 171)).alloc (.cells #[.int .i64 k, .int .i64 n, .string s, .slice pa p.length pc, .slice a (tlen f) c] 90)).cell? ⟨0, 0, none⟩ = some (EV ea) := ((Ex.new _ _).alloc _).at hG
  go_enter Tryz.func147, Tryz.ntmps147
  go_wp2_with fail
  go_ret
  exact ⟨rfl, (Ex.new _ _).alloc _⟩

set_option maxRecDepth 100000 in
set_option maxHeartbeats 2000000 in
theorem terms_by (ea : Addr) (aa : Option Addr) (al ac mb : Nat) (ns : List ByteArray) (f : TM) (a : Option Addr) (c d : Nat) (w : World) (hM : MA w 0 f a) (hl : tlen f ≤ 1000000000)
    (hK : ∀ j, j < tlen f → ∀ (pa : Option Addr) (pc : Nat) (a' : Option Addr) (c' : Nat) (w' : World), Ex w w' → PA w' 0 (tpath f j) pa → MA w' 0 (tkid f j) a' → Calls Tryz.prog 147 #[.agg #[.slice aa al ac, .map (some mb)], .agg #[.int .i64 (tkind f j), .int .i64 (tnum f j), .string (tname f j), .slice pa (tpath f j).length pc, .slice a' (tlen (tkid f j)) c'], .int .i64 d] w' (ErrP ea (kidB ns d f j) w')) :
    Calls Tryz.prog 137 #[.agg #[.slice aa al ac, .map (some mb)], .slice a (tlen f) c, .int .i64 d] w (ErrP ea (kidsB ns d f) w) := by
  have M : Hid (∀ w', Ex w w' → MA w' 0 f a) := fun _ h => MA_below hM h
  have I : Hid _ := hK
  have N : Hid (Ex w (w.alloc (.cells #[.slice aa al ac, .map (some mb)] 171))) := Ex.new _ _
  have C : Hid (∀ w', Ex (w.alloc (.cells #[.slice aa al ac, .map (some mb)] 171)) w' → w'.cell? ⟨w.heap.size, 0, none⟩ = some (.slice aa al ac) ∧ w'.cell? ⟨w.heap.size, 1, none⟩ = some (.map (some mb))) := fun w' h => ⟨h.at (by simp), h.at (by simp)⟩
  clear hM hK
  obtain ⟨R, hR⟩ : ∃ R, R = kidsB ns d f := ⟨_, rfl⟩
  have RR : Hid (R = kidsB ns d f) := hR
  rw [← hR]
  clear hR
  go_enter Tryz.func137, Tryz.ntmps137
  go_wp2_with fail
  go_loopw [8, 9, 12] (fun _ _ i wr => ∃ (j : Nat), j ≤ tlen f ∧ i = .int .i64 j ∧ (∀ l, l < j → kidB ns d f l = true) ∧ Ex (w.alloc (.cells #[.slice aa al ac, .map (some mb)] 171)) wr) (fun _ _ i _ => tlen f - (intOf i).toNat)
  case atStart => exact ⟨0, by omega, rfl, fun j hj => by omega, Ex.refl _⟩
  case round =>
    obtain ⟨j, hj, rfl, hall, hx⟩ := hrel
    have A : Hid (∀ l, l < j → kidB ns d f l = true) := hall
    have E : Hid (Ex (w.alloc (.cells #[.slice aa al ac, .map (some mb)] 171)) wr) := hx
    obtain ⟨c0, c1⟩ := C.out wr hx
    clear hall hx
    by_cases hlt : j < tlen f
    · obtain ⟨b, o, rfl, _, hbs, hk⟩ := MA_at (M.out wr (N.out.trans E.out)) (by omega)
      obtain ⟨e0, e1, e2, ⟨pa, pc, e3, hp'⟩, a', c', e4, hm'⟩ := hk j hlt
      have HI : Hid (∀ w', Ex wr w' → Calls Tryz.prog 147 #[.agg #[.slice aa al ac, .map (some mb)], .agg #[.int .i64 (tkind f j), .int .i64 (tnum f j), .string (tname f j), .slice pa (tpath f j).length pc, .slice a' (tlen (tkid f j)) c'], .int .i64 d] w' (ErrP ea (kidB ns d f j) w')) := fun w' h => I.out j hlt pa pc a' c' w' (N.out.trans (E.out.trans h)) (PA_below (PS_pa.1 hp'.1) h) (MA_below hm' h)
      have U : Hid (kidB ns d f j = true → ∀ l, l < j + 1 → kidB ns d f l = true) := fun h => upto_succ A.out h
      have V : Hid (kidB ns d f j = false → R = false) := fun h => RR.out.trans (kidsB_no hlt h)
      clear hk hp' hm'
      have zr : w.heap.size < wr.heap.size := by have := E.out.size; rw [World.size_alloc] at this; omega
      go_wp2_with fail
      refine Calls.mono (HI.out _ (Ex.new _ _)) ?_
      rintro e w1 ⟨rfl, hb1⟩
      have E1 : Hid (Ex (w.alloc (.cells #[.slice aa al ac, .map (some mb)] 171)) w1) := E.out.trans ((Ex.new _ _).trans hb1)
      clear hb1 HI
      cases hkb : kidB ns d f j with
      | false =>
        have HR : Hid (R = false) := V.out hkb
        clear hkb
        simp only [errV, Bool.false_eq_true, if_false]
        go_wp2_with fail
        go_ret
        exact ⟨by rw [HR.out]; rfl, N.out.trans E1.out⟩
      | true =>
        have HU : Hid _ := U.out hkb
        clear hkb
        simp only [errV, if_true]
        go_wp2_with fail
        go_roundw
        case rel => exact ⟨j + 1, by omega, by go_num, HU.out, E1.out⟩
        case measure => simp [intOf]; omega
    · have HR : Hid (R = true) := RR.out.trans (kidsB_yes fun l hl => A.out l (by omega))
      go_wp2_with fail
      go_ret
      exact ⟨by rw [HR.out]; rfl, N.out.trans E.out⟩

theorem terms_any (ea : Addr) (aa : Option Addr) (al ac mb m : Nat) (ns : List ByteArray) : ∀ (d : Nat) (f : TM) (a : Option Addr) (c : Nat) (w : World), d ≤ 1000 → w.cell? ⟨0, 0, none⟩ = some (EV ea) → CM w mb m ns → MA w 0 f a → tlen f ≤ 1000000000 → TSm f → TLm f →
    Calls Tryz.prog 137 #[.agg #[.slice aa al ac, .map (some mb)], .slice a (tlen f) c, .int .i64 d] w (ErrP ea (kidsB ns d f) w) := by
  intro d
  induction d with
  | zero =>
    intro f a c w _ hG _ hM hl _ _
    exact terms_by ea aa al ac mb ns f a c 0 w hM hl fun j hj pa pc a' c' w' hx _ _ => term_zero ea aa al ac mb _ _ _ _ pa pc _ a' c' w' (hx.at hG)
  | succ d ih =>
    intro f a c w hd hG hC hM hl hsm hlm
    refine terms_by ea aa al ac mb ns f a c (d + 1) w hM hl fun j hj pa pc a' c' w' hx hp hm => ?_
    obtain ⟨g1, g2, g3⟩ := TSm_kid hsm j hj
    obtain ⟨h1, h2, h3, h4⟩ := TLm_at hlm j hj
    exact term_by ea aa al ac mb m ns _ _ _ _ pa pc _ a' c' d (by omega) w' (hx.at hG) (hC.ex hx) h1 hp fun w2 hx2 => ih _ a' c' w2 (by omega) ((hx.trans hx2).at hG) (hC.ex (hx.trans hx2)) (MA_below hm hx2) g2 g3 h4

end Go.Proofs.YtgpdnoghlommeaaGreatDoor

namespace Go.Proofs.YtgpdnoghlommeaaGreatDoor

open Go.RowKit Go.Deep

attribute [local go_sem ↓] Go.wp_at_zero Go.wp_at_succ

/-- All lists are of a length that is one. -/
def Lm : F → Prop
  | .nil => True
  | .node _ _ _ k r => len k ≤ 9223372036854775807 ∧ Lm k ∧ Lm r
theorem Lm_kid : ∀ {f : F}, Lm f → ∀ i, i < len f → len (kid f i) ≤ 9223372036854775807 ∧ Lm (kid f i)
  | .nil, _, i, h => by simp [len] at h
  | .node _ _ _ k r, hs, 0, _ => ⟨hs.1, hs.2.1⟩
  | .node _ _ _ k r, hs, i + 1, h => Lm_kid hs.2.2 i (by simp only [len] at h; omega)

/-- Small, as far as it goes. -/
def SmTo (f : F) (k : Nat) : Prop := ∀ j, j < k → len (kid f j) ≤ 1000000000 ∧ Sm (kid f j)
theorem Sm_of : ∀ {f : F}, SmTo f (len f) → Sm f
  | .nil, _ => trivial
  | .node _ _ _ k r, h => ⟨(h 0 (by simp [len])).1, (h 0 (by simp [len])).2, Sm_of fun j hj => h (j + 1) (by simp only [len]; omega)⟩

set_option maxRecDepth 100000 in
set_option maxHeartbeats 2000000 in
theorem szType_both : ∀ (d : Nat), (∀ (f : F) (a : Option Addr) (c lo : Nat) (l : Int) (w : World), dep f < d → len f ≤ 9223372036854775807 → Lm f → 0 ≤ l → l ≤ 1048576 → TA w lo f a →
      Calls Tryz.prog 6 #[.slice a (len f) c, .int .i64 l] w fun e w' => ∃ x : Int, e = .returned (.int .i64 x) ∧ -1 ≤ x ∧ x ≤ l ∧ (0 ≤ x → len f ≤ 1048576 ∧ Sm f) ∧ Ex w w') ∧
    (∀ (f : F) (a : Option Addr) (c lo : Nat) (l : Int) (w : World), dep f < d → len f ≤ 9223372036854775807 → Lm f → 0 ≤ l → l ≤ 1048576 → TA w lo f a →
      Calls Tryz.prog 20 #[.agg #[.slice a (len f) c], .int .i64 l] w fun e w' => ∃ x : Int, e = .returned (.int .i64 x) ∧ -1 ≤ x ∧ x ≤ l ∧ (0 ≤ x → len f ≤ 1048576 ∧ Sm f) ∧ Ex w w') := by
  intro d
  induction d with
  | zero => exact ⟨fun f a c lo l w hd => by omega, fun f a c lo l w hd => by omega⟩
  | succ d ih =>
    have hS : ∀ (f : F) (a : Option Addr) (c lo : Nat) (l : Int) (w : World), dep f < d + 1 → len f ≤ 9223372036854775807 → Lm f → 0 ≤ l → l ≤ 1048576 → TA w lo f a →
      Calls Tryz.prog 6 #[.slice a (len f) c, .int .i64 l] w fun e w' => ∃ x : Int, e = .returned (.int .i64 x) ∧ -1 ≤ x ∧ x ≤ l ∧ (0 ≤ x → len f ≤ 1048576 ∧ Sm f) ∧ Ex w w' := by
      intro f a c lo l w hd hlen hlm hl0 hl1 hT
      have T : Hid (TA w lo f a) := hT
      have I : Hid _ := ih.2
      have LM : Hid (Lm f) := hlm
      clear hT hlm
      by_cases hneg : l - len f < 0
      · go_enter Tryz.func6, Tryz.ntmps6
        go_wp2_with fail
        go_ret
        exact ⟨-1, rfl, by omega, by omega, fun h => by omega, Ex.refl _⟩
      · go_enter Tryz.func6, Tryz.ntmps6
        go_wp2_with fail
        go_loopw [1, 5] (fun lv i wr => ∃ (k : Nat) (x : Int), k ≤ len f ∧ i = .int .i64 k ∧ lv = .int .i64 x ∧ 0 ≤ x ∧ x ≤ l ∧ SmTo f k ∧ Ex w wr) (fun _ i _ => len f - (intOf i).toNat)
        case atStart => exact ⟨0, l - len f, Nat.zero_le _, rfl, rfl, by omega, by omega, fun j hj => by omega, Ex.refl _⟩
        case round =>
          obtain ⟨k, x, hk, rfl, rfl, hx0, hxl, hsm, hx⟩ := hrel
          have ST : Hid (SmTo f k) := hsm
          clear hsm
          by_cases hlt : k < len f
          · obtain ⟨b, o, rfl, hlo, hbs, hkk⟩ := TA_at (TA_below T.out hx) (by omega)
            obtain ⟨a1, k1, hc1, ht1⟩ := hkk k hlt
            have T1 : Hid (TA wr lo (kid f k) a1) := ht1
            clear hkk ht1
            go_wp2_with fail
            refine (I.out (kid f k) a1 k1 lo x _ (by have := dep_kid f k hlt; omega) (Lm_kid LM.out k hlt).1 (Lm_kid LM.out k hlt).2 hx0 (by omega) T1.out).mono ?_
            rintro e w1 ⟨y, rfl, hy0, hy1, hysm, hb1⟩
            have YS : Hid (0 ≤ y → len (kid f k) ≤ 1048576 ∧ Sm (kid f k)) := hysm
            clear hysm
            by_cases hy : y < 0
            · go_wp2_with fail
              go_ret
              exact ⟨-1, rfl, by omega, by omega, fun h => by omega, hx.trans hb1⟩
            · go_wp2_with fail
              go_roundw
              case rel => exact ⟨k + 1, y, by omega, by go_num, rfl, by omega, by omega, fun j hj => by
                by_cases hj' : j < k
                · exact ST.out j hj'
                · rw [show j = k by omega]; have := YS.out (by omega); exact ⟨by omega, this.2⟩, hx.trans hb1⟩
              case measure => simp [intOf]; omega
          · go_wp2_with fail
            go_ret
            exact ⟨x, rfl, by omega, hxl, fun _ => ⟨by omega, Sm_of (by rw [show len f = k by omega]; exact ST.out)⟩, hx⟩
    refine ⟨hS, ?_⟩
    intro f a c lo l w hd hlen hlm hl0 hl1 hT
    have HS : Hid _ := hS
    clear hS ih
    go_enter Tryz.func20, Tryz.ntmps20
    go_wp2_with fail
    refine (HS.out f a c lo l _ hd hlen hlm hl0 hl1 (TA_below hT (Ex.new _ _))).mono ?_
    rintro e w1 ⟨y, rfl, hy0, hy1, hysm, hb1⟩
    have YS : Hid (0 ≤ y → len f ≤ 1048576 ∧ Sm f) := hysm
    clear hysm
    by_cases hy : y < 0
    · go_wp2_with fail
      go_ret
      exact ⟨-1, rfl, by omega, by omega, fun h => by omega, (Ex.new _ _).trans hb1⟩
    · go_wp2_with fail
      go_ret
      exact ⟨y, rfl, by omega, by omega, YS.out, (Ex.new _ _).trans hb1⟩

set_option maxRecDepth 100000 in
set_option maxHeartbeats 2000000 in
theorem eqType_both : ∀ (d : Nat), (∀ (f g : F) (a a' : Option Addr) (c c' lo lo' : Nat) (w : World), dep f < d → len f ≤ 1000000000 → Sm f → TA w lo f a → TA w lo' g a' →
      Calls Tryz.prog 11 #[.slice a (len f) c, .slice a' (len g) c'] w fun e w' => e = .returned (.bool (eqT f g)) ∧ Ex w w') ∧
    (∀ (f g : F) (a a' : Option Addr) (c c' lo lo' : Nat) (w : World), dep f < d → len f ≤ 1000000000 → Sm f → TA w lo f a → TA w lo' g a' →
      Calls Tryz.prog 32 #[.agg #[.slice a (len f) c], .agg #[.slice a' (len g) c']] w fun e w' => e = .returned (.bool (eqT f g)) ∧ Ex w w') := by
  intro d
  induction d with
  | zero => exact ⟨fun f g a a' c c' lo lo' w hd => by omega, fun f g a a' c c' lo lo' w hd => by omega⟩
  | succ d ih =>
    have hS : ∀ (f g : F) (a a' : Option Addr) (c c' lo lo' : Nat) (w : World), dep f < d + 1 → len f ≤ 1000000000 → Sm f → TA w lo f a → TA w lo' g a' →
      Calls Tryz.prog 11 #[.slice a (len f) c, .slice a' (len g) c'] w fun e w' => e = .returned (.bool (eqT f g)) ∧ Ex w w' := by
      intro f g a a' c c' lo lo' w hd hl hs hT hT'
      have T : Hid (TA w lo f a) := hT
      have T' : Hid (TA w lo' g a') := hT'
      have I : Hid _ := ih.2
      have SS : Hid (Sm f) := hs
      clear hT hT' ih hs
      by_cases hlen : len f = len g
      · have e0 : ((len f : Int) != (len g : Int)) = false := by simp [hlen]
        have hle : len f ≤ len g := by omega
        have hge : len g ≤ len f := by omega
        have HL : Hid (len f = len g) := hlen
        clear hlen
        go_enter Tryz.func11, Tryz.ntmps11
        go_wp2_with fail
        go_loopw [5] (fun i wr => ∃ k : Nat, k ≤ len f ∧ i = .int .i64 k ∧ Ex w wr ∧ ∀ j, j < k → eqT (kid f j) (kid g j) = true) (fun i _ => len f - (intOf i).toNat)
        case atStart => exact ⟨0, Nat.zero_le _, rfl, Ex.refl _, fun j hj => by omega⟩
        case round =>
          obtain ⟨k, hk, rfl, hx, hfit⟩ := hrel
          have FT : Hid (∀ j, j < k → eqT (kid f j) (kid g j) = true) := hfit
          clear hfit
          by_cases hlt : k < len f
          · obtain ⟨b, o, rfl, hlo, hbs, hkk⟩ := TA_at (TA_below T.out hx) (by omega)
            obtain ⟨a1, c1, hc1, ht1⟩ := hkk k hlt
            obtain ⟨b', o', rfl, hlo', hbs', hkk'⟩ := TA_at (TA_below T'.out hx) (by omega)
            obtain ⟨a2, c2, hc2, ht2⟩ := hkk' k (by omega)
            have KS : Hid (∀ w', Ex wr w' → (Ex wr w' ∧ w'.cell? ⟨b, o + k, none⟩ = some (.slice a1 (len (kid f k)) c1) ∧ w'.cell? ⟨b', o' + k, none⟩ = some (.slice a2 (len (kid g k)) c2))) := fun w' h => ⟨h, Ex.at h hc1, Ex.at h hc2⟩
            have hI : Hid (∀ w', Ex wr w' → Calls Tryz.prog 32 #[.agg #[.slice a1 (len (kid f k)) c1], .agg #[.slice a2 (len (kid g k)) c2]] w' fun e w'' => e = .returned (.bool (eqT (kid f k) (kid g k))) ∧ Ex w' w'') := fun w' h =>
              I.out (kid f k) (kid g k) a1 a2 c1 c2 lo lo' w' (by have := dep_kid f k hlt; omega) (Sm_kid SS.out k hlt).1 (Sm_kid SS.out k hlt).2 (TA_below ht1 h) (TA_below ht2 h)
            have i0 : (0 : Int) ≤ (k : Int) := by omega
            have i1 : (k : Int) < (len f : Int) := by omega
            have i2 : (k : Int) < (len g : Int) := by omega
            clear hkk hkk' ht1 ht2
            go_wp2_with fail
            go_region_held3 (fun w' => Ex wr w' ∧ w'.cell? ⟨b, o + k, none⟩ = some (.slice a1 (len (kid f k)) c1) ∧ w'.cell? ⟨b', o' + k, none⟩ = some (.slice a2 (len (kid g k)) c2)) ((refine KS.out _ ?_; first | exact (Ex.refl _).drew | exact Ex.trans (And.left ‹Ex _ _ ∧ _›) ‹Ex _ _›)) (first | (go_at_call 32; refine (hI.out _ (And.left ‹Ex _ _ ∧ _›)).mono ?_; rintro e w7 ⟨rfl, hb7⟩))
            have hx7 : Ex wr w7 := And.left ‹Ex wr w7 ∧ _›
            cases hfk : eqT (kid f k) (kid g k)
            · go_wp2_with fail
              go_ret
              exact ⟨ret_b (eqT_bad _ _ k hlt hfk).symm, hx.trans hx7⟩
            · go_wp2_with fail
              go_roundw
              case rel => exact ⟨k + 1, by omega, by go_num, hx.trans hx7, fun j hj => by
                by_cases hj' : j < k
                · exact FT.out j hj'
                · rw [show j = k by omega]; exact hfk⟩
              case measure => simp [intOf]; omega
          · go_wp2_with fail
            go_ret
            exact ⟨ret_b (eqT_good _ _ HL.out fun j hj => FT.out j (by omega)).symm, hx⟩
      · have e0 : ((len f : Int) != (len g : Int)) = true := by simp; omega
        go_enter Tryz.func11, Tryz.ntmps11
        go_wp2_with fail
        go_ret
        exact ⟨ret_b (eqT_len _ _ hlen).symm, Ex.refl _⟩
    refine ⟨hS, ?_⟩
    intro f g a a' c c' lo lo' w hd hl hs hT hT'
    have HS : Hid _ := hS
    clear hS ih
    go_enter Tryz.func32, Tryz.ntmps32
    go_wp2_with fail
    refine (HS.out f g a a' c c' lo lo' _ hd hl hs (TA_below hT ((Ex.new _ _).alloc _)) (TA_below hT' ((Ex.new _ _).alloc _))).mono ?_
    rintro e w1 ⟨rfl, hb1⟩
    cases hfk : eqT f g
    · go_wp2_with fail
      go_ret
      exact ⟨ret_b hfk.symm, ((Ex.new _ _).alloc _).trans hb1⟩
    · go_wp2_with fail
      go_ret
      exact ⟨ret_b hfk.symm, ((Ex.new _ _).alloc _).trans hb1⟩

end Go.Proofs.YtgpdnoghlommeaaGreatDoor
