/- Walks: the type of a value, and whether a value is of a type, by the specification. Walks: whether a value is of a type, by both: the same. Walks: a value copied. Walks: a part of a value by a path. Walks: a part of a value, by the program. -/
import Derived.Test.YtldbmlojgakieaaGreatDoorGV3
import Derived.Test.YtldbmlojgakieaaGreatDoorGW5
import Derived.Test.YtldbmlojgakieaaGreatDoorGTM3
namespace Go.Proofs.YtldbmlojgakieaaGreatDoor

open Go.RowKit Go.Deep

attribute [local go_sem ↓] Go.wp_at_zero Go.wp_at_succ

set_option maxRecDepth 100000 in
set_option maxHeartbeats 2000000 in
theorem valType_any (n : Int) (f : F) (a : Option Addr) (c lo : Nat) (w : World) (hT : VA w lo f a) :
    Calls Tryz.prog 57 #[.agg #[.int .i64 n, .slice a (len f) c]] w fun e w' => ∃ a' c', e = .returned (.tuple #[.agg #[.slice a' (len ((vType 4 n f).getD .nil)) c'], .bool (vType 4 n f).isSome]) ∧ TA w' w.heap.size ((vType 4 n f).getD .nil) a' ∧ Ex w w' := by
  have I : Hid (∀ w', Ex w w' → Calls Tryz.prog 78 #[.agg #[.int .i64 n, .slice a (len f) c], .int .i64 4] w' fun e w'' => ∃ a' c', e = .returned (.tuple #[.agg #[.slice a' (len ((vType 4 n f).getD .nil)) c'], .bool (vType 4 n f).isSome]) ∧ TA w'' w'.heap.size ((vType 4 n f).getD .nil) a' ∧ Ex w' w'') := fun w' h => valTypeIn_any 4 n f a c lo w' (by omega) (VA_below hT h)
  clear hT
  obtain ⟨ty, hty⟩ : ∃ ty, ty = vType 4 n f := ⟨_, rfl⟩
  rw [← hty] at I ⊢
  clear hty
  go_enter Tryz.func57, Tryz.ntmps57
  go_wp2_with fail
  refine (I.out _ ((Ex.new _ _).alloc _)).mono ?_
  rintro e w1 ⟨a1, c1, rfl, ht1, hb1⟩
  have rb : w1.heap[w.heap.size + 1]? = some (.cells #[.slice none 0 0] 97 (0, 0)) := hb1.blk (by have := heap_alloc_new (w.alloc (.cells #[.int .i64 n, .slice a (len f) c] 55)) (.cells #[.slice none 0 0] 97); rwa [World.size_alloc] at this)
  have q1 := cell_of_one rb
  have q2 := free_of_one rb
  have x1 : Ex w w1 := ((Ex.new _ _).alloc _).trans hb1
  have T1 : Hid (TA w1 (w.heap.size + 2) (ty.getD .nil) a1) := by rw [World.size_alloc, World.size_alloc] at ht1; exact ht1
  clear ht1
  go_wp2_with fail
  have hres := World.cell?_setCell_same w1 ⟨w.heap.size + 1, 0, none⟩ (.slice a1 (len (ty.getD .nil)) c1) q1
  refine bodyPost_ret (v := .tuple #[.agg #[.slice a1 (len (ty.getD .nil)) c1], .bool ty.isSome]) (by simp [results, Tryz.results57, go_sem, hres]) rfl ⟨a1, c1, rfl, TA_lo (TA_kp T1.out ((Kp.refl _ _).set (Or.inl (by show w.heap.size + 1 < w.heap.size + 2; omega)) _)) (by omega), x1.set (Nat.le_succ _) _⟩


/-- A value is of a type, whatever that is. -/
def isOf : Nat → F → Int → F → Bool
  | 0, _, _, _ => false
  | d + 1, t, n, f => len f == len t && (len f == 0 || n == 0) && decide (0 ≤ n ∧ n ≤ 9999) && (List.range (len f)).all fun i => isOf d (kid t i) (num f i) (kid f i)

set_option maxRecDepth 100000 in
set_option maxHeartbeats 2000000 in
theorem l1Val_any : ∀ (d : Nat) (t : F) (n : Int) (f : F) (a at' : Option Addr) (c ct lo lo' : Nat) (w : World), dep f < d → len f ≤ 1000000000 → Sm f → VA w lo f a → TA w lo' t at' →
    Calls Tryz.prog 73 #[.agg #[.slice at' (len t) ct], .agg #[.int .i64 n, .slice a (len f) c]] w fun e w' => e = .returned (.bool (isOf d t n f)) ∧ Ex w w' := by
  intro d
  induction d with
  | zero => intro t n f a at' c ct lo lo' w hd; omega
  | succ d ih =>
    intro t n f a at' c ct lo lo' w hd hl hs hV hT
    have V : Hid (∀ w', Ex w w' → VA w' lo f a) := fun _ h => VA_below hV h
    have T : Hid (∀ w', Ex w w' → TA w' lo' t at') := fun _ h => TA_below hT h
    have I : Hid _ := ih
    have SS : Hid (Sm f) := hs
    clear hV hT ih hs
    by_cases hlen : len f = len t
    · have hl' : ((len f : Int) != (len t : Int)) = false := by simp; omega
      by_cases hz : len f = 0
      · have g0 : decide ((0 : Int) < (len f : Int)) = false := by simp; omega
        have g1 : decide (0 < len f) = false := by simp; omega
        have g2 : ¬ 0 < len f := by omega
        by_cases hr : 0 ≤ n ∧ n ≤ 9999
        · have IN : Hid (∀ w', Calls Tryz.prog 91 #[.int .i64 n, .int .i64 0, .int .i64 9999] w' fun e w'' => e = .returned (.bool true) ∧ Ex w' w'') := fun w' => by
            have := l6In_any n 0 9999 w'
            rw [show decide (0 ≤ n ∧ n ≤ 9999) = true by simp [hr]] at this
            exact this
          have R : Hid (isOf (d + 1) t n f = true) := by
            show _ = _
            simp [isOf, hz, hr, ← hlen]
          clear hlen hr hz
          go_enter Tryz.func73, Tryz.ntmps73
          go_wp2_with fail
          refine (IN.out _).mono ?_
          rintro e w1 ⟨rfl, hb1⟩
          have q1 : w1.cell? ⟨w.heap.size + 1, 1, none⟩ = some (.slice a (len f) c) := hb1.at (by simp)
          go_wp2_with fail
          go_loopw [5] (fun i wr => i = .int .i64 0 ∧ Ex w1 wr) (fun _ _ => 0)
          case atStart => exact ⟨rfl, Ex.refl _⟩
          case round =>
            obtain ⟨rfl, hx⟩ := hrel
            have q2 := hx.at q1
            go_wp2_with fail
            go_ret
            exact ⟨ret_b R.out.symm, ((Ex.new _ _).alloc _).trans (hb1.trans hx)⟩
        · have IN : Hid (∀ w', Calls Tryz.prog 91 #[.int .i64 n, .int .i64 0, .int .i64 9999] w' fun e w'' => e = .returned (.bool false) ∧ Ex w' w'') := fun w' => by
            have := l6In_any n 0 9999 w'
            rw [show decide (0 ≤ n ∧ n ≤ 9999) = false by simp [hr]] at this
            exact this
          have R : Hid (isOf (d + 1) t n f = false) := by
            show _ = _
            simp [isOf, hr]
          clear hlen hr hz
          go_enter Tryz.func73, Tryz.ntmps73
          go_wp2_with fail
          refine (IN.out _).mono ?_
          rintro e w1 ⟨rfl, hb1⟩
          go_wp2_with fail
          go_ret
          exact ⟨ret_b R.out.symm, ((Ex.new _ _).alloc _).trans hb1⟩
      · have g0 : decide ((0 : Int) < (len f : Int)) = true := by simp; omega
        have g1 : decide (0 < len f) = true := by simp; omega
        have g2 : 0 < len f := by omega
        by_cases hn : n = 0
        · subst hn
          have IN : Hid (∀ w', Calls Tryz.prog 91 #[.int .i64 0, .int .i64 0, .int .i64 9999] w' fun e w'' => e = .returned (.bool true) ∧ Ex w' w'') := fun w' => l6In_any 0 0 9999 w'
          have R1 : Hid ((∀ j, j < len f → isOf d (kid t j) (num f j) (kid f j) = true) → isOf (d + 1) t 0 f = true) := fun h => by
            simp [isOf, hlen] at h ⊢
            exact h
          have R0 : Hid (∀ j, j < len f → isOf d (kid t j) (num f j) (kid f j) = false → isOf (d + 1) t 0 f = false) := fun j hj h => by
            simp only [isOf, hlen]
            rw [Bool.and_eq_false_iff]
            right
            rw [List.all_eq_false]
            exact ⟨j, by simp; omega, by simp [h]⟩
          have HL : Hid (len f = len t) := hlen
          clear hlen hz
          go_enter Tryz.func73, Tryz.ntmps73
          go_wp2_with fail
          refine (IN.out _).mono ?_
          rintro e w1 ⟨rfl, hb1⟩
          have X1 : Hid (Ex w w1) := ((Ex.new _ _).alloc _).trans hb1
          have Q0 : Hid (∀ w', Ex w1 w' → w'.cell? ⟨w.heap.size, 0, none⟩ = some (.slice at' (len t) ct)) := fun _ h => h.at (hb1.at (by simp))
          have Q1 : Hid (∀ w', Ex w1 w' → w'.cell? ⟨w.heap.size + 1, 1, none⟩ = some (.slice a (len f) c)) := fun _ h => h.at (hb1.at (by simp))
          clear hb1
          go_wp2_with fail
          go_loopw [5] (fun i wr => ∃ (k : Nat), k ≤ len f ∧ i = .int .i64 k ∧ Ex w1 wr ∧ (∀ j, j < k → isOf d (kid t j) (num f j) (kid f j) = true)) (fun i _ => len f - (intOf i).toNat)
          case atStart => exact ⟨0, Nat.zero_le _, rfl, Ex.refl _, fun j hj => by omega⟩
          case round =>
            obtain ⟨k, hk, rfl, hx, hall⟩ := hrel
            have HA : Hid (∀ j, j < k → isOf d (kid t j) (num f j) (kid f j) = true) := hall
            have q2 := Q1.out wr hx
            clear hall
            by_cases hlt : k < len f
            · obtain ⟨b, o, rfl, hlo, hbs, hkk⟩ := VA_at (V.out wr (X1.out.trans hx)) (by omega)
              obtain ⟨hn1, a1, c1, hc1, hv1⟩ := hkk k hlt
              obtain ⟨b', o', rfl, hlo', hbs', hkk'⟩ := TA_at (T.out wr (X1.out.trans hx)) (by have := HL.out; omega)
              obtain ⟨a2, c2, hc2, ht2⟩ := hkk' k (by have := HL.out; omega)
              have KS : Hid (∀ w', Ex wr w' → (Ex wr w' ∧ w'.cell? ⟨w.heap.size, 0, none⟩ = some (.slice (some ⟨b', o', none⟩) (len t) ct) ∧ w'.cell? ⟨w.heap.size + 1, 1, none⟩ = some (.slice (some ⟨b, o, none⟩) (len f) c) ∧ w'.cell? ⟨b, o + k * 2, none⟩ = some (.int .i64 (num f k)) ∧ w'.cell? ⟨b, o + k * 2 + 1, none⟩ = some (.slice a1 (len (kid f k)) c1) ∧ w'.cell? ⟨b', o' + k, none⟩ = some (.slice a2 (len (kid t k)) c2))) := fun w' h => ⟨h, Q0.out w' (hx.trans h), Q1.out w' (hx.trans h), h.at hn1, h.at hc1, h.at hc2⟩
              have i1 : (0 : Int) ≤ (k : Int) := by omega
              have i2 : (k : Int) < (len f : Int) := by omega
              have i3 : (k : Int) < (len t : Int) := by have := HL.out; omega
              have hJ : Hid (∀ w', Ex wr w' → Calls Tryz.prog 73 #[.agg #[.slice a2 (len (kid t k)) c2], .agg #[.int .i64 (num f k), .slice a1 (len (kid f k)) c1]] w' fun e w'' => e = .returned (.bool (isOf d (kid t k) (num f k) (kid f k))) ∧ Ex w' w'') := fun w' h => I.out (kid t k) (num f k) (kid f k) a1 a2 c1 c2 lo lo' w' (by have := dep_kid f k hlt; omega) (Sm_kid SS.out k hlt).1 (Sm_kid SS.out k hlt).2 (VA_below hv1 h) (TA_below ht2 h)
              have HX : Hid (Ex w1 wr) := hx
              obtain ⟨z, hzz⟩ : ∃ z, z = isOf d (kid t k) (num f k) (kid f k) := ⟨_, rfl⟩
              rw [← hzz] at hJ
              have HZ : Hid (z = isOf d (kid t k) (num f k) (kid f k)) := hzz
              clear hkk hkk' hv1 ht2 hzz hx
              cases z
              · have hI : Hid (∀ w', Ex wr w' → Calls Tryz.prog 73 #[.agg #[.slice a2 (len (kid t k)) c2], .agg #[.int .i64 (num f k), .slice a1 (len (kid f k)) c1]] w' fun e w'' => e = .returned (.bool false) ∧ Ex w' w'') := hJ
                clear hJ
                go_wp2_with fail
                go_region_held3 (fun w' => Ex wr w' ∧ w'.cell? ⟨w.heap.size, 0, none⟩ = some (.slice (some ⟨b', o', none⟩) (len t) ct) ∧ w'.cell? ⟨w.heap.size + 1, 1, none⟩ = some (.slice (some ⟨b, o, none⟩) (len f) c) ∧ w'.cell? ⟨b, o + k * 2, none⟩ = some (.int .i64 (num f k)) ∧ w'.cell? ⟨b, o + k * 2 + 1, none⟩ = some (.slice a1 (len (kid f k)) c1) ∧ w'.cell? ⟨b', o' + k, none⟩ = some (.slice a2 (len (kid t k)) c2)) ((refine KS.out _ ?_; first | exact (Ex.refl _).drew | exact Ex.trans (And.left ‹Ex _ _ ∧ _›) ‹Ex _ _› | exact (And.left ‹Ex _ _ ∧ _›))) (first | (go_at_call 73; refine (hI.out _ (And.left ‹Ex _ _ ∧ _›)).mono ?_; rintro e w7 ⟨rfl, hb7⟩))
                go_wp2_with fail
                go_ret
                exact ⟨ret_b (R0.out k hlt HZ.out.symm).symm, X1.out.trans (HX.out.trans (And.left ‹Ex _ _ ∧ _›))⟩
              · have hI : Hid (∀ w', Ex wr w' → Calls Tryz.prog 73 #[.agg #[.slice a2 (len (kid t k)) c2], .agg #[.int .i64 (num f k), .slice a1 (len (kid f k)) c1]] w' fun e w'' => e = .returned (.bool true) ∧ Ex w' w'') := hJ
                clear hJ
                go_wp2_with fail
                go_region_held3 (fun w' => Ex wr w' ∧ w'.cell? ⟨w.heap.size, 0, none⟩ = some (.slice (some ⟨b', o', none⟩) (len t) ct) ∧ w'.cell? ⟨w.heap.size + 1, 1, none⟩ = some (.slice (some ⟨b, o, none⟩) (len f) c) ∧ w'.cell? ⟨b, o + k * 2, none⟩ = some (.int .i64 (num f k)) ∧ w'.cell? ⟨b, o + k * 2 + 1, none⟩ = some (.slice a1 (len (kid f k)) c1) ∧ w'.cell? ⟨b', o' + k, none⟩ = some (.slice a2 (len (kid t k)) c2)) ((refine KS.out _ ?_; first | exact (Ex.refl _).drew | exact Ex.trans (And.left ‹Ex _ _ ∧ _›) ‹Ex _ _› | exact (And.left ‹Ex _ _ ∧ _›))) (first | (go_at_call 73; refine (hI.out _ (And.left ‹Ex _ _ ∧ _›)).mono ?_; rintro e w7 ⟨rfl, hb7⟩))
                go_wp2_with fail
                go_roundw
                case rel => exact ⟨k + 1, by omega, by go_num, HX.out.trans (And.left ‹Ex _ _ ∧ _›), fun j hj => by
                  by_cases hj' : j < k
                  · exact HA.out j hj'
                  · rw [show j = k by omega]; exact HZ.out.symm⟩
                case measure => simp [intOf]; omega
            · go_wp2_with fail
              go_ret
              exact ⟨ret_b (R1.out fun j hj => HA.out j (by omega)).symm, X1.out.trans hx⟩
        · have hn' : (n != 0) = true := by simp [hn]
          have R : Hid (isOf (d + 1) t n f = false) := by
            show _ = _
            simp [isOf, hz, hn]
          clear hlen hz
          go_enter Tryz.func73, Tryz.ntmps73
          go_wp2_with fail
          go_ret
          exact ⟨ret_b R.out.symm, (Ex.new _ _).alloc _⟩
    · have hl' : ((len f : Int) != (len t : Int)) = true := by simp; omega
      have R : Hid (isOf (d + 1) t n f = false) := by
        show _ = _
        simp [isOf, hlen]
      clear hlen
      go_enter Tryz.func73, Tryz.ntmps73
      go_wp2_with fail
      go_ret
      exact ⟨ret_b R.out.symm, (Ex.new _ _).alloc _⟩

end Go.Proofs.YtldbmlojgakieaaGreatDoor

namespace Go.Proofs.YtldbmlojgakieaaGreatDoor

open Go.RowKit Go.Deep

attribute [local go_sem ↓] Go.wp_at_zero Go.wp_at_succ

theorem vType_fits : ∀ (r : Nat) (n : Int) (f u : F), vType r n f = some u → fits r u = true
  | 0, n, f, u, h => by simp [vType] at h
  | r + 1, n, f, u, h => by
    by_cases h0 : len f = 0
    · rw [vType_num h0] at h
      split at h
      · cases h; exact fits_nil rfl
      · cases h
    · by_cases hb : len f = 2 ∧ n = 0
      · rw [vType_two hb.1 hb.2] at h
        cases ha : vType r (num f 0) (kid f 0) with
        | none => rw [ha] at h; cases h
        | some a =>
          cases hc : vType r (num f 1) (kid f 1) with
          | none => rw [ha, hc] at h; cases h
          | some b =>
            rw [ha, hc] at h
            cases h
            rw [fits_two rfl, kid_two0, kid_two1, vType_fits r _ _ _ ha, vType_fits r _ _ _ hc]; rfl
      · rw [vType_bad h0 hb] at h; cases h

/-- Of the type that is said of it. -/
def ofType (t : F) (o : Option F) : Bool := match o with | some u => eqT t u | none => false

theorem isOf_vType : ∀ (r d : Nat) (t : F) (n : Int) (f : F), fits r t = true → dep f < d → isOf d t n f = ofType t (vType r n f)
  | 0, d, t, n, f, h, _ => by simp [fits] at h
  | r + 1, 0, t, n, f, _, h => by omega
  | r + 1, d + 1, t, n, f, ht, hd => by
    by_cases h0 : len f = 0
    · rw [vType_num h0]
      by_cases h1 : len t = 0
      · by_cases hr : 0 ≤ n ∧ n ≤ 9999
        · rw [if_pos hr]
          have e : eqT t .nil = true := eqT_zero h1 rfl
          simp [isOf, h0, h1, hr, ofType, e]
        · rw [if_neg hr]
          simp [isOf, hr, ofType]
      · have e : eqT t .nil = false := eqT_len t .nil h1
        have : isOf (d + 1) t n f = false := by simp [isOf, h0, Ne.symm h1]
        rw [this]
        split <;> simp [ofType, e]
    · by_cases hb : len f = 2 ∧ n = 0
      · rw [vType_two hb.1 hb.2]
        by_cases h2 : len t = 2
        · rw [fits_two h2, Bool.and_eq_true] at ht
          have i0 := isOf_vType r d (kid t 0) (num f 0) (kid f 0) ht.1 (by have := dep_kid f 0 (by omega); omega)
          have i1 := isOf_vType r d (kid t 1) (num f 1) (kid f 1) ht.2 (by have := dep_kid f 1 (by omega); omega)
          have e : isOf (d + 1) t n f = (isOf d (kid t 0) (num f 0) (kid f 0) && isOf d (kid t 1) (num f 1) (kid f 1)) := by
            simp [isOf, hb.1, hb.2, h2, List.range_succ]
          rw [e, i0, i1]
          cases vType r (num f 0) (kid f 0) with
          | none => rfl
          | some a =>
            cases vType r (num f 1) (kid f 1) with
            | none => simp [ofType]
            | some b =>
              show (eqT (kid t 0) a && eqT (kid t 1) b) = eqT t (two 0 a 0 b)
              rw [eqT_two h2 (len_two 0 0 a b), kid_two0, kid_two1]
        · have : isOf (d + 1) t n f = false := by simp [isOf, hb.1, Ne.symm h2]
          rw [this]
          cases vType r (num f 0) (kid f 0) with
          | none => rfl
          | some a =>
            cases vType r (num f 1) (kid f 1) with
            | none => rfl
            | some b =>
              show false = eqT t (two 0 a 0 b)
              rw [eqT_len t _ (by rw [len_two]; exact h2)]
      · rw [vType_bad h0 hb]
        have : isOf (d + 1) t n f = false := by
          by_cases hl : len f = len t
          · have h2 : len f = 2 := by have := fits_len ht; omega
            have hn : n ≠ 0 := fun h => hb ⟨h2, h⟩
            simp [isOf, h0, hn]
          · simp [isOf, hl]
        rw [this]; rfl

/-- What both say. -/
def valOk (t : F) (n : Int) (f : F) : Bool := fits 4 t && ofType t (vType 4 n f)

set_option maxRecDepth 100000 in
set_option maxHeartbeats 2000000 in
theorem sValOk_any (t : F) (n : Int) (f : F) (a at' : Option Addr) (c ct lo lo' : Nat) (w : World) (hl : len f ≤ 1000000000) (hs : Sm f) (hV : VA w lo f a) (hT : TA w lo' t at') :
    Calls Tryz.prog 50 #[.agg #[.slice at' (len t) ct], .agg #[.int .i64 n, .slice a (len f) c]] w fun e w' => e = .returned (.bool (valOk t n f)) ∧ Ex w w' := by
  have IT : Hid (∀ w', Ex w w' → Calls Tryz.prog 72 #[.agg #[.slice at' (len t) ct]] w' fun e w'' => e = .returned (.bool (fits 4 t)) ∧ Ex w' w'') := fun w' h => sTypeOk_any t at' ct lo' w' (TA_below hT h)
  have IV : Hid (∀ w', Ex w w' → Calls Tryz.prog 73 #[.agg #[.slice at' (len t) ct], .agg #[.int .i64 n, .slice a (len f) c]] w' fun e w'' => e = .returned (.bool (isOf (dep f + 1) t n f)) ∧ Ex w' w'') := fun w' h => l1Val_any (dep f + 1) t n f a at' c ct lo lo' w' (by omega) hl hs (VA_below hV h) (TA_below hT h)
  have R : Hid (fits 4 t = true → isOf (dep f + 1) t n f = valOk t n f) := fun h => by rw [isOf_vType 4 _ t n f h (by omega), valOk, h]; rfl
  have R0 : Hid (fits 4 t = false → valOk t n f = false) := fun h => by rw [valOk, h]; rfl
  clear hV hT hl hs
  obtain ⟨z, hz⟩ : ∃ z, z = fits 4 t := ⟨_, rfl⟩
  rw [← hz] at IT R R0
  clear hz
  go_enter Tryz.func50, Tryz.ntmps50
  go_wp2_with fail
  refine (IT.out _ ((Ex.new _ _).alloc _)).mono ?_
  rintro e w1 ⟨rfl, hb1⟩
  have x1 : Ex w w1 := ((Ex.new _ _).alloc _).trans hb1
  have q0 : w1.cell? ⟨w.heap.size, 0, none⟩ = some (.slice at' (len t) ct) := hb1.at (by simp)
  have q1 : w1.cell? ⟨w.heap.size + 1, 0, none⟩ = some (.int .i64 n) := hb1.at (by simp)
  have q2 : w1.cell? ⟨w.heap.size + 1, 1, none⟩ = some (.slice a (len f) c) := hb1.at (by simp)
  cases z
  · go_wp2_with fail
    go_ret
    exact ⟨ret_b (R0.out (by trivial)).symm, x1⟩
  · go_wp2_with fail
    refine (IV.out _ x1).mono ?_
    rintro e w2 ⟨rfl, hb2⟩
    go_wp2_with fail
    go_ret
    exact ⟨ret_b (R.out (by trivial)), x1.trans hb2⟩

set_option maxRecDepth 100000 in
set_option maxHeartbeats 2000000 in
theorem iValOk_any (t : F) (n : Int) (f : F) (a at' : Option Addr) (c ct lo lo' : Nat) (w : World) (hV : VA w lo f a) (hT : TA w lo' t at') :
    Calls Tryz.prog 145 #[.agg #[.slice at' (len t) ct], .agg #[.int .i64 n, .slice a (len f) c]] w fun e w' => e = .returned (.bool (valOk t n f)) ∧ Ex w w' := by
  have IT : Hid (∀ w', Ex w w' → Calls Tryz.prog 150 #[.agg #[.slice at' (len t) ct]] w' fun e w'' => e = .returned (.bool (fits 4 t)) ∧ Ex w' w'') := fun w' h => iTypeOk_any t at' ct lo' w' (TA_below hT h)
  have IV : Hid (∀ w', Ex w w' → Calls Tryz.prog 57 #[.agg #[.int .i64 n, .slice a (len f) c]] w' fun e w'' => ∃ a' c', e = .returned (.tuple #[.agg #[.slice a' (len ((vType 4 n f).getD .nil)) c'], .bool (vType 4 n f).isSome]) ∧ TA w'' w'.heap.size ((vType 4 n f).getD .nil) a' ∧ Ex w' w'') := fun w' h => valType_any n f a c lo w' (VA_below hV h)
  have IS : Hid (∀ u, vType 4 n f = some u → fits 4 t = true → ∀ w' a' c' lo'', Ex w w' → TA w' lo'' u a' → Calls Tryz.prog 151 #[.agg #[.slice at' (len t) ct], .agg #[.slice a' (len u) c']] w' fun e w'' => e = .returned (.bool (eqT t u)) ∧ Ex w' w'') := fun u hu ht w' a' c' lo'' h h' => typeSame_any 4 t u at' a' ct c' lo' lo'' w' ht (vType_fits 4 n f u hu) (TA_below hT h) h'
  have R : Hid (valOk t n f = (fits 4 t && ofType t (vType 4 n f))) := rfl
  clear hV hT
  obtain ⟨res, hres⟩ : ∃ res, res = valOk t n f := ⟨_, rfl⟩
  rw [← hres] at R ⊢
  obtain ⟨z, hz⟩ : ∃ z, z = fits 4 t := ⟨_, rfl⟩
  rw [← hz] at IT R IS
  obtain ⟨o, ho⟩ : ∃ o, o = vType 4 n f := ⟨_, rfl⟩
  rw [← ho] at IV R IS
  clear hres hz ho
  cases o with
  | none =>
    go_enter Tryz.func145, Tryz.ntmps145
    go_wp2_with fail
    refine (IV.out _ ((Ex.new _ _).alloc _)).mono ?_
    rintro e w1 ⟨a1, c1, rfl, ht1, hb1⟩
    simp only [Option.getD_none, Option.isSome_none, len] at *
    go_wp2_with fail
    go_ret
    exact ⟨ret_b (by rw [R.out]; simp [ofType]), ((Ex.new _ _).alloc _).trans (hb1.alloc _)⟩
  | some u =>
    go_enter Tryz.func145, Tryz.ntmps145
    go_wp2_with fail
    refine (IV.out _ ((Ex.new _ _).alloc _)).mono ?_
    rintro e w1 ⟨a1, c1, rfl, ht1, hb1⟩
    simp only [Option.getD_some, Option.isSome_some] at *
    have x1 : Ex w w1 := ((Ex.new _ _).alloc _).trans hb1
    have q0 : w1.cell? ⟨w.heap.size, 0, none⟩ = some (.slice at' (len t) ct) := hb1.at (by simp)
    have z0 : w.heap.size < w1.heap.size := World.block_lt_of_cell? _ _ q0
    have T1 : Hid _ := ht1
    clear ht1
    go_wp2_with fail
    refine (IT.out _ (x1.alloc _)).mono ?_
    rintro e w2 ⟨rfl, hb2⟩
    have q2 := hb2.at ((Ex.new _ _).at q0)
    have q3 : w2.cell? ⟨w1.heap.size, 0, none⟩ = some (.slice a1 (len u) c1) := hb2.at (World.cell?_alloc_new _ _ _ _)
    have x2 : Ex w w2 := (x1.alloc _).trans hb2
    cases z
    · go_wp2_with fail
      go_ret
      exact ⟨ret_b (by rw [R.out]; rfl), x2⟩
    · go_wp2_with fail
      refine (IS.out u (by trivial) (by trivial) w2 a1 c1 _ x2 (TA_below T1.out ((Ex.new _ _).trans hb2))).mono ?_
      rintro e w3 ⟨rfl, hb3⟩
      go_wp2_with fail
      go_ret
      exact ⟨ret_b (by rw [R.out]; rfl), x2.trans hb3⟩

end Go.Proofs.YtldbmlojgakieaaGreatDoor

namespace Go.Proofs.YtldbmlojgakieaaGreatDoor

open Go.RowKit Go.Deep

attribute [local go_sem ↓] Go.wp_at_zero Go.wp_at_succ

theorem vType_some {r : Nat} {n : Int} {f u : F} (h : vType (r + 1) n f = some u) : len f = 0 ∨ (len f = 2 ∧ n = 0 ∧ ∃ a b, vType r (num f 0) (kid f 0) = some a ∧ vType r (num f 1) (kid f 1) = some b) := by
  by_cases h0 : len f = 0
  · exact Or.inl h0
  · by_cases hb : len f = 2 ∧ n = 0
    · rw [vType_two hb.1 hb.2] at h
      cases ha : vType r (num f 0) (kid f 0) with
      | none => rw [ha] at h; cases h
      | some a =>
        cases hc : vType r (num f 1) (kid f 1) with
        | none => rw [ha, hc] at h; cases h
        | some b => exact Or.inr ⟨hb.1, hb.2, a, b, rfl, rfl⟩
    · rw [vType_bad h0 hb] at h; cases h

set_option maxRecDepth 100000 in
set_option maxHeartbeats 2000000 in
theorem valCopy_any : ∀ (r : Nat) (n : Int) (f u : F) (a : Option Addr) (cap : Nat) (lo : Nat) (w : World), vType r n f = some u → VA w lo f a →
    Calls Tryz.prog 30 #[.agg #[.int .i64 n, .slice a (len f) cap]] w fun e w' => ∃ a' cap', e = .returned (.agg #[.int .i64 n, .slice a' (len f) cap']) ∧ VA w' w.heap.size f a' ∧ Ex w w'
  | 0, n, f, u, a, cap, lo, w, hf, hT => by simp [vType] at hf
  | r + 1, n, f, u, a, cap, lo, w, hf, hT => by
    by_cases h0 : len f = 0
    · have h0' : ((len f : Int) == 0) = true := by simp [h0]
      have H0 : Hid (len f = 0) := h0
      clear h0 hf hT
      go_enter Tryz.func30, Tryz.ntmps30
      go_wp2_with fail
      refine bodyPost_ret (v := .agg #[.int .i64 n, .slice none 0 0]) (by simp [results, Tryz.results30, go_sem]) rfl ⟨none, 0, by rw [H0.out], Or.inl H0.out, ?_⟩
      exact ((Ex.new _ _).alloc _)
    · obtain h1 | ⟨h2, hn, ua, ub, hua, hub⟩ := vType_some hf
      · exact absurd h1 h0
      subst hn
      obtain ⟨b, o, a0, a1, c0, c1, rfl, hlo, hbs, n0, hc0, n1, hc1, t0, t1⟩ := VA_pair hT h2
      have I0 : Hid (∀ w', Ex w w' → Calls Tryz.prog 30 #[.agg #[.int .i64 (num f 0), .slice a0 (len (kid f 0)) c0]] w' fun e w'' => ∃ a' cap', e = .returned (.agg #[.int .i64 (num f 0), .slice a' (len (kid f 0)) cap']) ∧ VA w'' w'.heap.size (kid f 0) a' ∧ Ex w' w'') := fun w' h => valCopy_any r (num f 0) (kid f 0) ua a0 c0 lo w' hua (VA_below t0 h)
      have I1 : Hid (∀ w', Ex w w' → Calls Tryz.prog 30 #[.agg #[.int .i64 (num f 1), .slice a1 (len (kid f 1)) c1]] w' fun e w'' => ∃ a' cap', e = .returned (.agg #[.int .i64 (num f 1), .slice a' (len (kid f 1)) cap']) ∧ VA w'' w'.heap.size (kid f 1) a' ∧ Ex w' w'') := fun w' h => valCopy_any r (num f 1) (kid f 1) ub a1 c1 lo w' hub (VA_below t1 h)
      have H2 : Hid (len f = 2) := h2
      have E0 : Hid (Ex w (w.alloc (.cells #[.int .i64 0, .slice (some ⟨b, o, none⟩) 2 cap] 55))) := Ex.new _ _
      have KS : Hid (∀ w', Core (w.alloc (.cells #[.int .i64 0, .slice (some ⟨b, o, none⟩) 2 cap] 55)) (w.heap.size + 1) 2 55 w' → (Core (w.alloc (.cells #[.int .i64 0, .slice (some ⟨b, o, none⟩) 2 cap] 55)) (w.heap.size + 1) 2 55 w' ∧ w'.cell? ⟨w.heap.size, 1, none⟩ = some (.slice (some ⟨b, o, none⟩) 2 cap) ∧ w'.cell? ⟨b, o, none⟩ = some (.int .i64 (num f 0)) ∧ w'.cell? ⟨b, o + 1, none⟩ = some (.slice a0 (len (kid f 0)) c0) ∧ w'.cell? ⟨b, o + 2, none⟩ = some (.int .i64 (num f 1)) ∧ w'.cell? ⟨b, o + 3, none⟩ = some (.slice a1 (len (kid f 1)) c1))) := fun w' h => ⟨h, Ex.at h.1 (by simp), Ex.at h.1 (Ex.at (Ex.new _ _) n0), Ex.at h.1 (Ex.at (Ex.new _ _) hc0), Ex.at h.1 (Ex.at (Ex.new _ _) n1), Ex.at h.1 (Ex.at (Ex.new _ _) hc1)⟩
      have C0 : Hid (Core (w.alloc (.cells #[.int .i64 0, .slice (some ⟨b, o, none⟩) 2 cap] 55)) (w.heap.size + 1) 2 55 ((w.alloc (.cells #[.int .i64 0, .slice (some ⟨b, o, none⟩) 2 cap] 55)).alloc (.cells #[.int .i64 0, .slice none 0 0] 55))) := by
        have := Core.start (w.alloc (.cells #[.int .i64 0, .slice (some ⟨b, o, none⟩) 2 cap] 55)) #[.int .i64 0, .slice none 0 0] 55
        rw [World.size_alloc] at this; exact this
      rw [h2]
      clear hT t0 t1 hf h2 h0 hua hub n0 n1 hc0 hc1
      go_enter Tryz.func30, Tryz.ntmps30
      go_wp2_with fail
      go_region_held3 (fun w' => Core (w.alloc (.cells #[.int .i64 0, .slice (some ⟨b, o, none⟩) 2 cap] 55)) (w.heap.size + 1) 2 55 w' ∧ w'.cell? ⟨w.heap.size, 1, none⟩ = some (.slice (some ⟨b, o, none⟩) 2 cap) ∧ w'.cell? ⟨b, o, none⟩ = some (.int .i64 (num f 0)) ∧ w'.cell? ⟨b, o + 1, none⟩ = some (.slice a0 (len (kid f 0)) c0) ∧ w'.cell? ⟨b, o + 2, none⟩ = some (.int .i64 (num f 1)) ∧ w'.cell? ⟨b, o + 3, none⟩ = some (.slice a1 (len (kid f 1)) c1)) ((refine KS.out _ ?_; first | exact Core.drew C0.out | exact Core.ex (And.left ‹Core _ _ _ _ _ ∧ _›) ‹Ex _ _› | exact Core.alloc (And.left ‹Core _ _ _ _ _ ∧ _›) _ | exact Core.set (Core.set (And.left ‹Core _ _ _ _ _ ∧ _›) _ _ (by simp) _) _ _ (by simp) _ | exact Core.alloc (Core.set (Core.set (by assumption) _ _ (by simp) _) _ _ (by simp) _) _)) (first | (go_at_call_of 30 (Value.slice a0 (len (kid f 0)) c0); refine (I0.out _ (Ex.trans E0.out (And.left ‹Core _ _ _ _ _ ∧ _›).1)).mono ?_; rintro e w1 ⟨a0', c0', rfl, ht0', hb0⟩) | (go_at_call_of 30 (Value.slice a1 (len (kid f 1)) c1); refine (I1.out _ (Ex.trans E0.out (And.left ‹Core _ _ _ _ _ ∧ _›).1)).mono ?_; rintro e w2 ⟨a1', c1', rfl, ht1', hb1⟩; have hcr := Core.ex (And.left ‹Core _ _ _ _ _ ∧ _›) hb1; obtain ⟨vr, hvr⟩ := hcr.cell 0 (by omega); obtain ⟨vs, hvs⟩ := hcr.cell 1 (by omega); have hfr := hcr.frozen 0; have hfs := hcr.frozen 1; have hlr := hcr.lt))
      go_wp2_with fail
      have hz : w.heap.size + 2 ≤ w1.heap.size := by have := hb0.size; simpa using this
      have hsz : ((w2.setCell ⟨w.heap.size + 1, 0, none⟩ (.int .i64 0)).setCell ⟨w.heap.size + 1, 1, none⟩ (.slice (some ⟨w2.heap.size, 0, none⟩) 2 2)).heap.size = w2.heap.size := by rw [World.size_setCell, World.size_setCell]
      have k1 : Kp (w.heap.size + 2) w1 (((w2.setCell ⟨w.heap.size + 1, 0, none⟩ (.int .i64 0)).setCell ⟨w.heap.size + 1, 1, none⟩ (.slice (some ⟨w2.heap.size, 0, none⟩) 2 2)).alloc (.cells #[.int .i64 (num f 0), .slice a0' (len (kid f 0)) c0', .int .i64 (num f 1), .slice a1' (len (kid f 1)) c1'] 55)) := (((Kp.of_below hb1 _).set (Or.inl (by simp)) _).set (Or.inl (by simp)) _).alloc _
      have k2 : Kp (w.heap.size + 2) w2 (((w2.setCell ⟨w.heap.size + 1, 0, none⟩ (.int .i64 0)).setCell ⟨w.heap.size + 1, 1, none⟩ (.slice (some ⟨w2.heap.size, 0, none⟩) 2 2)).alloc (.cells #[.int .i64 (num f 0), .slice a0' (len (kid f 0)) c0', .int .i64 (num f 1), .slice a1' (len (kid f 1)) c1'] 55)) := (((Kp.refl _ _).set (Or.inl (by simp)) _).set (Or.inl (by simp)) _).alloc _
      have f0 : VA (((w2.setCell ⟨w.heap.size + 1, 0, none⟩ (.int .i64 0)).setCell ⟨w.heap.size + 1, 1, none⟩ (.slice (some ⟨w2.heap.size, 0, none⟩) 2 2)).alloc (.cells #[.int .i64 (num f 0), .slice a0' (len (kid f 0)) c0', .int .i64 (num f 1), .slice a1' (len (kid f 1)) c1'] 55)) w.heap.size (kid f 0) a0' := VA_lo (VA_kp (VA_lo ht0' (by simp)) k1) (by omega)
      have f1 : VA (((w2.setCell ⟨w.heap.size + 1, 0, none⟩ (.int .i64 0)).setCell ⟨w.heap.size + 1, 1, none⟩ (.slice (some ⟨w2.heap.size, 0, none⟩) 2 2)).alloc (.cells #[.int .i64 (num f 0), .slice a0' (len (kid f 0)) c0', .int .i64 (num f 1), .slice a1' (len (kid f 1)) c1'] 55)) w.heap.size (kid f 1) a1' := VA_lo (VA_kp (VA_lo ht1' hz) k2) (by omega)
      have e0 := World.cell?_alloc_new ((w2.setCell ⟨w.heap.size + 1, 0, none⟩ (.int .i64 0)).setCell ⟨w.heap.size + 1, 1, none⟩ (.slice (some ⟨w2.heap.size, 0, none⟩) 2 2)) #[.int .i64 (num f 0), .slice a0' (len (kid f 0)) c0', .int .i64 (num f 1), .slice a1' (len (kid f 1)) c1'] 55 0
      have e1 := World.cell?_alloc_new ((w2.setCell ⟨w.heap.size + 1, 0, none⟩ (.int .i64 0)).setCell ⟨w.heap.size + 1, 1, none⟩ (.slice (some ⟨w2.heap.size, 0, none⟩) 2 2)) #[.int .i64 (num f 0), .slice a0' (len (kid f 0)) c0', .int .i64 (num f 1), .slice a1' (len (kid f 1)) c1'] 55 1
      have e2 := World.cell?_alloc_new ((w2.setCell ⟨w.heap.size + 1, 0, none⟩ (.int .i64 0)).setCell ⟨w.heap.size + 1, 1, none⟩ (.slice (some ⟨w2.heap.size, 0, none⟩) 2 2)) #[.int .i64 (num f 0), .slice a0' (len (kid f 0)) c0', .int .i64 (num f 1), .slice a1' (len (kid f 1)) c1'] 55 2
      have e3 := World.cell?_alloc_new ((w2.setCell ⟨w.heap.size + 1, 0, none⟩ (.int .i64 0)).setCell ⟨w.heap.size + 1, 1, none⟩ (.slice (some ⟨w2.heap.size, 0, none⟩) 2 2)) #[.int .i64 (num f 0), .slice a0' (len (kid f 0)) c0', .int .i64 (num f 1), .slice a1' (len (kid f 1)) c1'] 55 3
      rw [hsz] at e0 e1 e2 e3
      have hr1 : (((w2.setCell ⟨w.heap.size + 1, 0, none⟩ (.int .i64 0)).setCell ⟨w.heap.size + 1, 1, none⟩ (.slice (some ⟨w2.heap.size, 0, none⟩) 2 2)).alloc (.cells #[.int .i64 (num f 0), .slice a0' (len (kid f 0)) c0', .int .i64 (num f 1), .slice a1' (len (kid f 1)) c1'] 55)).cell? ⟨w.heap.size + 1, 1, none⟩ = some (.slice (some ⟨w2.heap.size, 0, none⟩) 2 2) := by
        rw [World.cell?_alloc_lt _ _ _ (by rw [hsz]; exact hlr)]
        exact World.cell?_setCell_same _ _ _ (by rw [World.cell?_setCell_other _ _ _ _ (fun e => absurd (congrArg Addr.off e) (by simp))]; exact hvs)
      have hr0 : (((w2.setCell ⟨w.heap.size + 1, 0, none⟩ (.int .i64 0)).setCell ⟨w.heap.size + 1, 1, none⟩ (.slice (some ⟨w2.heap.size, 0, none⟩) 2 2)).alloc (.cells #[.int .i64 (num f 0), .slice a0' (len (kid f 0)) c0', .int .i64 (num f 1), .slice a1' (len (kid f 1)) c1'] 55)).cell? ⟨w.heap.size + 1, 0, none⟩ = some (.int .i64 0) := by
        rw [World.cell?_alloc_lt _ _ _ (by rw [hsz]; exact hlr), World.cell?_setCell_other _ _ _ _ (fun e => absurd (congrArg Addr.off e) (by simp))]
        exact World.cell?_setCell_same _ _ _ hvr
      refine bodyPost_ret (v := .agg #[.int .i64 0, .slice (some ⟨w2.heap.size, 0, none⟩) 2 2]) (by simp [results, Tryz.results30, go_sem, hr0, hr1]) rfl ⟨_, _, rfl, VA_two (k0 := c0') (k1 := c1') H2.out ?_ e0 e1 e2 e3 f0 f1, ?_⟩
      · have := hb1.size; omega
      · exact (((E0.out.trans hcr.1).set (by simp) _).set (by simp) _).alloc _

end Go.Proofs.YtldbmlojgakieaaGreatDoor

namespace Go.Proofs.YtldbmlojgakieaaGreatDoor

open Go.RowKit Go.Deep

attribute [local go_sem ↓] Go.wp_at_zero Go.wp_at_succ

/-- The part of a value by a path. -/
def partV : Int → F → List Int → Option (Int × F)
  | n, f, [] => some (n, f)
  | _, f, i :: p => if 0 ≤ i ∧ i < len f then partV (num f i.toNat) (kid f i.toNat) p else none

theorem valKids_any (n : Int) (a : Option Addr) (l cap : Nat) (w : World) :
    Calls Tryz.prog 142 #[.agg #[.int .i64 n, .slice a l cap]] w fun e w' => e = .returned (.slice a l cap) ∧ Ex w w' := by
  go_enter Tryz.func142, Tryz.ntmps142
  go_wp2_with fail
  go_ret
  exact ⟨rfl, Ex.new _ _⟩

theorem two_cell0 {w : World} {b : Nat} {u v : Value} {t : TypeId} (h : w.heap[b]? = some (.cells #[u, v] t (0, 0))) : w.cell? ⟨b, 0, none⟩ = some u := by simp [World.cell?, h]
theorem two_cell1 {w : World} {b : Nat} {u v : Value} {t : TypeId} (h : w.heap[b]? = some (.cells #[u, v] t (0, 0))) : w.cell? ⟨b, 1, none⟩ = some v := by simp [World.cell?, h]
theorem two_free {w : World} {b i : Nat} {u v : Value} {t : TypeId} (h : w.heap[b]? = some (.cells #[u, v] t (0, 0))) : w.frozen? ⟨b, i, none⟩ = false := by simp [World.frozen?, h]
theorem two_set {w : World} {b : Nat} {u v u' v' : Value} {t : TypeId} (h : w.heap[b]? = some (.cells #[u, v] t (0, 0))) : ((w.setCell ⟨b, 0, none⟩ u').setCell ⟨b, 1, none⟩ v').heap[b]? = some (.cells #[u', v'] t (0, 0)) := by
  simp [World.setCell, Array.getElem?_modify, h]

set_option maxRecDepth 100000 in
set_option maxHeartbeats 1000000 in
theorem partAtV_any (n : Int) (f : F) (p : List Int) (a : Option Addr) (cap : Nat) (pa : Option Addr) (pc : Nat) (lo : Nat) (w : World) (hp : p.length ≤ 1000000000) (hT : VA w lo f a) (hP : PA w 0 p pa) :
    Calls Tryz.prog 141 #[.agg #[.int .i64 n, .slice a (len f) cap], .slice pa p.length pc, .func (.func 142) #[] #[]] w fun e w' =>
      (∃ m g a' cap', partV n f p = some (m, g) ∧ e = .returned (.tuple #[.agg #[.int .i64 m, .slice a' (len g) cap'], .bool true]) ∧ VA w' lo g a' ∧ Ex w w') ∨ (partV n f p = none ∧ e = .returned (.tuple #[.agg #[.int .i64 0, .slice none 0 0], .bool false]) ∧ Ex w w') := by
  have T : Hid (VA w lo f a) := hT
  have P : Hid (PA w 0 p pa) := hP
  clear hT hP
  go_enter Tryz.func141, Tryz.ntmps141
  go_wp2_with fail
  go_loopw [14] (fun i wr => ∃ (k : Nat) (m : Int) (g : F) (a' : Option Addr) (cap' : Nat), k ≤ p.length ∧ i = .int .i64 k ∧ partV m g (p.drop k) = partV n f p ∧ VA w lo g a' ∧ Ex w wr ∧ wr.heap[w.heap.size]? = some (.cells #[.int .i64 m, .slice a' (len g) cap'] 55 (0, 0)) ∧ wr.heap[w.heap.size + 1]? = some (.cells #[.int .i64 0, .slice none 0 0] 55 (0, 0))) (fun i _ => p.length - (intOf i).toNat)
  case atStart => exact ⟨0, n, f, a, cap, Nat.zero_le _, rfl, rfl, T.out, (Ex.new _ _).alloc _, by rw [Below.heap_alloc _ _ _ (by simp)]; exact heap_alloc_new _ _, by rw [← World.size_alloc w (.cells #[.int .i64 n, .slice a (len f) cap] 55)]; exact heap_alloc_new _ _⟩
  case round =>
    obtain ⟨k, m, g, a', cap', hk, rfl, hpg, hg, hx, hbx, hrs⟩ := hrel
    have PG : Hid (partV m g (p.drop k) = partV n f p) := hpg
    have TG : Hid (VA w lo g a') := hg
    have c0 := two_cell0 hbx
    have c1 := two_cell1 hbx
    have c3 := two_cell0 hrs
    have c4 := two_cell1 hrs
    have r0 := two_free (i := 0) hrs
    have r1 := two_free (i := 1) hrs
    clear hpg hg
    by_cases hlt : k < p.length
    · obtain ⟨pb, po, rfl, hpb, _, hpc⟩ := PA_at (PA_below P.out hx) (by omega)
      obtain ⟨x, hxe⟩ : ∃ x, x = p.getD k 0 := ⟨_, rfl⟩
      have hck := hpc k hlt
      rw [← hxe] at hck
      have hpd : partV n f p = if 0 ≤ x ∧ x < len g then partV (num g x.toNat) (kid g x.toNat) (p.drop (k + 1)) else none := by
        rw [← PG.out, drop_cons p k hlt, ← hxe]; rfl
      have PD : Hid _ := hpd
      clear hpc hxe hpd
      go_wp2_with fail
      refine (valKids_any _ _ _ _ _).mono ?_
      rintro e w1 ⟨rfl, hb1⟩
      have hbx1 := hb1.blk hbx
      have hrs1 := hb1.blk hrs
      have d0 := two_cell0 hbx1
      have d1 := two_cell1 hbx1
      have d2 := two_free (i := 0) hbx1
      have d2' := two_free (i := 1) hbx1
      have d3 := two_cell0 hrs1
      have d3' := two_cell1 hrs1
      have d4 := two_free (i := 0) hrs1
      have d4' := two_free (i := 1) hrs1
      have d5 := lt_of_block hrs1
      have hx1 : Ex w w1 := hx.trans hb1
      clear c0 c1 c3 c4 r0 r1 hbx hrs
      by_cases hxx : 0 ≤ x ∧ x < len g
      · obtain ⟨hx0, hxl⟩ := hxx
        have e0 : decide (x < 0) = false := by simp; omega
        obtain ⟨b, o, rfl, hlo, hbs, hkk⟩ := VA_at TG.out (by omega)
        obtain ⟨hn2, a2, k2, hc2, ht2⟩ := hkk x.toNat (by omega)
        have hn3 := hx1.at hn2
        have hc3 := hx1.at hc2
        have T3 : Hid (VA w lo (kid g x.toNat) a2) := ht2
        clear hkk ht2 hn2 hc2
        go_wp2_with fail
        go_roundw
        case rel =>
          exact ⟨k + 1, num g x.toNat, kid g x.toNat, a2, k2, by omega, by go_num, by rw [PD.out, if_pos ⟨hx0, hxl⟩], T3.out, (hx1.set (Nat.le_refl _) _).set (Nat.le_refl _) _, two_set hbx1, by rw [Below.heap_setCell _ _ _ _ (by simp), Below.heap_setCell _ _ _ _ (by simp)]; exact hrs1⟩
        case measure => simp [intOf]; omega
      · have HN : Hid (partV n f p = none) := by show _ = _; rw [PD.out, if_neg hxx]
        by_cases hx0 : x < 0
        · have e0 : decide (x < 0) = true := by simp; omega
          go_wp2_with fail
          have hb2 := (Ex.new _ (.cells #[.int .i64 0, .slice none 0 0] 55)).blk (two_set (u' := .int .i64 0) (v' := .slice none 0 0) hrs1)
          have hr0 := two_cell0 hb2
          have hr1 := two_cell1 hb2
          exact bodyPost_ret (v := .tuple #[.agg #[.int .i64 0, .slice none 0 0], .bool false]) (by simp [results, Tryz.results141, go_sem, hr0, hr1]) rfl (Or.inr ⟨HN.out, rfl, ((hx1.set (Nat.le_succ _) _).set (Nat.le_succ _) _).alloc _⟩)
        · have e0 : decide (x < 0) = false := by simp; omega
          have e1 : (len g : Int) ≤ x := by omega
          go_wp2_with fail
          have hb2 := (Ex.new _ (.cells #[.int .i64 0, .slice none 0 0] 55)).blk (two_set (u' := .int .i64 0) (v' := .slice none 0 0) hrs1)
          have hr0 := two_cell0 hb2
          have hr1 := two_cell1 hb2
          exact bodyPost_ret (v := .tuple #[.agg #[.int .i64 0, .slice none 0 0], .bool false]) (by simp [results, Tryz.results141, go_sem, hr0, hr1]) rfl (Or.inr ⟨HN.out, rfl, ((hx1.set (Nat.le_succ _) _).set (Nat.le_succ _) _).alloc _⟩)
    · have hd : p.drop k = [] := List.drop_eq_nil_of_le (by omega)
      have hs : partV n f p = some (m, g) := by rw [← PG.out, hd]; rfl
      have HS : Hid (partV n f p = some (m, g)) := hs
      clear hs hd
      go_wp2_with fail
      have hb2 := two_set (u' := .int .i64 m) (v' := .slice a' (len g) cap') hrs
      have hr0 := two_cell0 hb2
      have hr1 := two_cell1 hb2
      have hxf : Ex w ((wr.setCell ⟨w.heap.size + 1, 0, none⟩ (.int .i64 m)).setCell ⟨w.heap.size + 1, 1, none⟩ (.slice a' (len g) cap')) := (hx.set (Nat.le_succ _) _).set (Nat.le_succ _) _
      exact bodyPost_ret (v := .tuple #[.agg #[.int .i64 m, .slice a' (len g) cap'], .bool true]) (by simp [results, Tryz.results141, go_sem, hr0, hr1]) rfl (Or.inl ⟨m, g, a', cap', HS.out, rfl, VA_below TG.out hxf, hxf⟩)

theorem partV_ok : ∀ (p : List Int) (r : Nat) (n : Int) (f u : F) (m : Int) (g : F), vType r n f = some u → partV n f p = some (m, g) → ∃ r' u', vType r' m g = some u'
  | [], r, n, f, u, m, g, h, e => by cases e; exact ⟨r, u, h⟩
  | i :: p, 0, n, f, u, m, g, h, e => by simp [vType] at h
  | i :: p, r + 1, n, f, u, m, g, h, e => by
    simp only [partV] at e
    split at e
    · rename_i hi
      obtain h0 | ⟨h2, _, a, b, ha, hb⟩ := vType_some h
      · omega
      · have : i.toNat = 0 ∨ i.toNat = 1 := by omega
        rcases this with hi | hi <;> rw [hi] at e
        · exact partV_ok p r _ _ a m g ha e
        · exact partV_ok p r _ _ b m g hb e
    · cases e

end Go.Proofs.YtldbmlojgakieaaGreatDoor

namespace Go.Proofs.YtldbmlojgakieaaGreatDoor

open Go.RowKit Go.Deep

attribute [local go_sem ↓] Go.wp_at_zero Go.wp_at_succ

/-- What ValAt tells. -/
def valAtR (n : Int) (f : F) (p : List Int) : (Int × F) × Bool := match (if (vType 4 n f).isSome = true then partV n f p else none) with
  | some (m, g) => ((m, g), true)
  | none => ((0, .nil), false)

theorem partAtV_one (n : Int) (f u : F) (p : List Int) (a : Option Addr) (cap : Nat) (pa : Option Addr) (pc : Nat) (lo : Nat) (w : World) (hp : p.length ≤ 1000000000) (hu : vType 4 n f = some u) (hT : VA w lo f a) (hP : PA w 0 p pa) :
    Calls Tryz.prog 141 #[.agg #[.int .i64 n, .slice a (len f) cap], .slice pa p.length pc, .func (.func 142) #[] #[]] w fun e w' =>
      ∃ (m : Int) (g : F) (ok : Bool) (a' : Option Addr) (cap' r' : Nat) (u' : F), valAtR n f p = ((m, g), ok) ∧ vType r' m g = some u' ∧ e = .returned (.tuple #[.agg #[.int .i64 m, .slice a' (len g) cap'], .bool ok]) ∧ VA w' lo g a' ∧ Ex w w' :=
  (partAtV_any n f p a cap pa pc lo w hp hT hP).mono fun e w' h => by
    rcases h with ⟨m, g, a', cap', h1, h2, h3, h4⟩ | ⟨h1, h2, h3⟩
    · obtain ⟨r', u', hr⟩ := partV_ok p 4 n f u m g hu h1
      exact ⟨m, g, true, a', cap', r', u', by simp [valAtR, hu, h1], hr, h2, h3, h4⟩
    · exact ⟨0, .nil, false, none, 0, 1, .nil, by simp [valAtR, hu, h1], rfl, h2, Or.inl rfl, h3⟩

set_option maxRecDepth 100000 in
set_option maxHeartbeats 2000000 in
theorem iValAt_any (n : Int) (f : F) (p : List Int) (a : Option Addr) (cap : Nat) (pa : Option Addr) (pc : Nat) (lo : Nat) (w : World) (hp : p.length ≤ 1000000000) (hT : VA w lo f a) (hP : PA w 0 p pa) :
    Calls Tryz.prog 134 #[.agg #[.int .i64 n, .slice a (len f) cap], .slice pa p.length pc] w fun e w' =>
      ∃ a' cap', e = .returned (.tuple #[.agg #[.int .i64 (valAtR n f p).1.1, .slice a' (len (valAtR n f p).1.2) cap'], .bool (valAtR n f p).2]) ∧ VA w' w.heap.size (valAtR n f p).1.2 a' ∧ Ex w w' := by
  have IV : Hid (∀ w', Ex w w' → Calls Tryz.prog 57 #[.agg #[.int .i64 n, .slice a (len f) cap]] w' fun e w'' => ∃ a' c', e = .returned (.tuple #[.agg #[.slice a' (len ((vType 4 n f).getD .nil)) c'], .bool (vType 4 n f).isSome]) ∧ TA w'' w'.heap.size ((vType 4 n f).getD .nil) a' ∧ Ex w' w'') := fun w' h => valType_any n f a cap lo w' (VA_below hT h)
  have IP : Hid (∀ u w', vType 4 n f = some u → Ex w w' → Calls Tryz.prog 141 #[.agg #[.int .i64 n, .slice a (len f) cap], .slice pa p.length pc, .func (.func 142) #[] #[]] w' fun e w'' =>
      ∃ (m : Int) (g : F) (ok : Bool) (a' : Option Addr) (cap' r' : Nat) (u' : F), valAtR n f p = ((m, g), ok) ∧ vType r' m g = some u' ∧ e = .returned (.tuple #[.agg #[.int .i64 m, .slice a' (len g) cap'], .bool ok]) ∧ VA w'' lo g a' ∧ Ex w' w'') := fun u w' hu h => partAtV_one n f u p a cap pa pc lo w' hp hu (VA_below hT h) (PA_below hP h)
  have R0 : Hid (vType 4 n f = none → valAtR n f p = ((0, .nil), false)) := fun h => by simp [valAtR, h]
  clear hT hP
  obtain ⟨o, ho⟩ : ∃ o, o = vType 4 n f := ⟨_, rfl⟩
  rw [← ho] at IV IP R0
  obtain ⟨z, hz⟩ : ∃ z, z = valAtR n f p := ⟨_, rfl⟩
  rw [← hz] at IP R0 ⊢
  clear ho hz
  cases o with
  | none =>
    have e : z = ((0, .nil), false) := R0.out rfl
    subst e
    go_enter Tryz.func134, Tryz.ntmps134
    go_wp2_with fail
    refine (IV.out _ ((Ex.new _ _).alloc _)).mono ?_
    rintro e w1 ⟨a1, c1, rfl, ht1, hb1⟩
    simp only [Option.getD_none, Option.isSome_none, len] at *
    have rb : w1.heap[w.heap.size + 1]? = some (.cells #[.int .i64 0, .slice none 0 0] 55 (0, 0)) := hb1.blk (by have := heap_alloc_new (w.alloc (.cells #[.int .i64 n, .slice a (len f) cap] 55)) (.cells #[.int .i64 0, .slice none 0 0] 55); rwa [World.size_alloc] at this)
    have d0 := two_cell0 rb
    have d1 := two_cell1 rb
    have d2 := two_free (i := 0) rb
    have d3 := two_free (i := 1) rb
    have d5 := lt_of_block rb
    have x1 : Ex w w1 := ((Ex.new _ _).alloc _).trans hb1
    clear ht1
    go_wp2_with fail
    have hb4 := (Ex.new _ (.cells #[.slice a1 0 c1] 97)).blk (two_set (u' := .int .i64 0) (v' := .slice none 0 0) rb)
    have hr0 := two_cell0 hb4
    have hr1 := two_cell1 hb4
    have hxf := ((x1.set (p := ⟨w.heap.size + 1, 0, none⟩) (Nat.le_succ _) (.int .i64 0)).set (p := ⟨w.heap.size + 1, 1, none⟩) (Nat.le_succ _) (.slice none 0 0)).alloc (.cells #[.slice a1 0 c1] 97)
    refine bodyPost_ret (v := .tuple #[.agg #[.int .i64 0, .slice none 0 0], .bool false]) (by simp [results, Tryz.results134, go_sem, hr0, hr1]) rfl ?_
    first
      | exact ⟨none, 0, rfl, VA_nil _ _ _, hxf⟩
      | exact ⟨none, ⟨0, rfl⟩, VA_nil _ _ _, hxf⟩
  | some u =>
    go_enter Tryz.func134, Tryz.ntmps134
    go_wp2_with fail
    refine (IV.out _ ((Ex.new _ _).alloc _)).mono ?_
    rintro e w1 ⟨a1, c1, rfl, ht1, hb1⟩
    simp only [Option.getD_some, Option.isSome_some] at *
    have x1 : Ex w w1 := ((Ex.new _ _).alloc _).trans hb1
    have rb : w1.heap[w.heap.size + 1]? = some (.cells #[.int .i64 0, .slice none 0 0] 55 (0, 0)) := hb1.blk (by have := heap_alloc_new (w.alloc (.cells #[.int .i64 n, .slice a (len f) cap] 55)) (.cells #[.int .i64 0, .slice none 0 0] 55); rwa [World.size_alloc] at this)
    have q0 : w1.cell? ⟨w.heap.size, 0, none⟩ = some (.int .i64 n) := hb1.at (by simp)
    have q1 : w1.cell? ⟨w.heap.size, 1, none⟩ = some (.slice a (len f) cap) := hb1.at (by simp)
    have z0 : w.heap.size < w1.heap.size := World.block_lt_of_cell? _ _ q0
    clear ht1
    go_wp2_with fail
    refine (IP.out u _ rfl (x1.alloc _)).mono ?_
    rintro e w2 ⟨m, g, ok, a2, c2, r', u', hz, hu', rfl, hv2, hb2⟩
    subst hz
    have V2 : Hid (∀ w', Ex w2 w' → VA w' lo g a2) := fun _ h => VA_below hv2 h
    have IC : Hid (∀ w', Ex w2 w' → Calls Tryz.prog 30 #[.agg #[.int .i64 m, .slice a2 (len g) c2]] w' fun e w'' => ∃ a' cap', e = .returned (.agg #[.int .i64 m, .slice a' (len g) cap']) ∧ VA w'' w'.heap.size g a' ∧ Ex w' w'') := fun w' h => valCopy_any r' m g u' a2 c2 lo w' hu' (V2.out _ h)
    have rb2 := hb2.blk ((Ex.new _ _).blk rb)
    have x2 : Ex w w2 := (x1.alloc _).trans hb2
    clear hv2 hu' q0 q1
    go_wp2_with fail
    refine (IC.out _ (Ex.new _ _)).mono ?_
    rintro e w3 ⟨a3, c3, rfl, hv3, hb3⟩
    have rb3 := hb3.blk ((Ex.new _ _).blk rb2)
    have d0 := two_cell0 rb3
    have d1 := two_cell1 rb3
    have d2 := two_free (i := 0) rb3
    have d3 := two_free (i := 1) rb3
    have d5 := lt_of_block rb2
    have x3 : Ex w w3 := (x2.alloc _).trans hb3
    have V3 : Hid (VA w3 (w2.heap.size + 1) g a3) := by rw [World.size_alloc] at hv3; exact hv3
    clear hv3
    go_wp2_with fail
    have hb4 := two_set (u' := .int .i64 m) (v' := .slice a3 (len g) c3) rb3
    have hr0 := two_cell0 hb4
    have hr1 := two_cell1 hb4
    exact bodyPost_ret (v := .tuple #[.agg #[.int .i64 m, .slice a3 (len g) c3], .bool ok]) (by simp [results, Tryz.results134, go_sem, hr0, hr1]) rfl ⟨a3, ⟨c3, rfl⟩, VA_lo (VA_kp V3.out (((Kp.refl _ _).set (Or.inl (by show w.heap.size + 1 < w2.heap.size + 1; omega)) _).set (Or.inl (by show w.heap.size + 1 < w2.heap.size + 1; omega)) _)) (by omega), (x3.set (Nat.le_succ _) _).set (Nat.le_succ _) _⟩

end Go.Proofs.YtldbmlojgakieaaGreatDoor
