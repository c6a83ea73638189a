/- Walks: a part of a value, by the specification. -/
import Derived.Test.YtomnekiiccbioaaV11
import Derived.Test.YtomnekiiccbioaaV8
namespace Go.Proofs.Ytomnekiiccbioaa
open Go.RowKit Go.Deep
attribute [local go_sem ↓] Go.wp_at_zero Go.wp_at_succ

theorem sm_two {f : F} (h2 : len f = 2) (h0 : len (kid f 0) ≤ 2 ∧ Sm (kid f 0)) (h1 : len (kid f 1) ≤ 2 ∧ Sm (kid f 1)) : Sm f := by
  match f, h2 with
  | .node _ _ _ k (.node _ _ _ k' .nil), _ => exact ⟨by have := h0.1; simp only [kid] at this; omega, h0.2, ⟨by have := h1.1; simp only [kid] at this; omega, h1.2, trivial⟩⟩
theorem dep_two {f : F} (h2 : len f = 2) : dep f = max (dep (kid f 0) + 1) (dep (kid f 1) + 1) := by
  match f, h2 with
  | .node _ _ _ k (.node _ _ _ k' .nil), _ => simp [dep, kid]
theorem sm_nil {f : F} (h : len f = 0) : Sm f ∧ dep f = 0 := by
  match f, h with
  | .nil, _ => exact ⟨trivial, rfl⟩

theorem vType_sm : ∀ (r : Nat) (n : Int) (f u : F), vType r n f = some u → len f ≤ 2 ∧ Sm f ∧ dep f < r
  | 0, n, f, u, h => by simp [vType] at h
  | r + 1, n, f, u, h => by
    obtain h0 | ⟨h2, hn, a, b, ha, hb⟩ := vType_some h
    · have := sm_nil h0; exact ⟨by omega, this.1, by omega⟩
    · have i0 := vType_sm r _ _ _ ha
      have i1 := vType_sm r _ _ _ hb
      exact ⟨by omega, sm_two h2 ⟨i0.1, i0.2.1⟩ ⟨i1.1, i1.2.1⟩, by rw [dep_two h2]; omega⟩

theorem vType_kid {r : Nat} {n : Int} {g u : F} (h : vType r n g = some u) (hr : r ≤ 4) (i : Nat) (hi : i < len g) : ∃ r' u', r' ≤ 4 ∧ vType r' (num g i) (kid g i) = some u' := by
  cases r with
  | zero => simp [vType] at h
  | succ r =>
    obtain h0 | ⟨h2, hn, a, b, ha, hb⟩ := vType_some h
    · omega
    · have : i = 0 ∨ i = 1 := by omega
      rcases this with rfl | rfl
      · exact ⟨r, a, by omega, ha⟩
      · exact ⟨r, b, by omega, hb⟩

/-- What ValAt tells. -/
def VAtPost (n : Int) (f : F) (p : List Int) (w : World) (e : Ending) (w' : World) : Prop := ∃ a' cap', e = .returned (.tuple #[.agg #[.int .i64 (valAtR n f p).1.1, .slice a' (len (valAtR n f p).1.2) cap'], .bool (valAtR n f p).2]) ∧ VA w' w.heap.size (valAtR n f p).1.2 a' ∧ Ex w w'

theorem VAtPost.none {n : Int} {f : F} {p : List Int} {w w' : World} (h : valAtR n f p = ((0, .nil), false)) (hx : Ex w w') : VAtPost n f p w (.returned (.tuple #[.agg #[.int .i64 0, .slice Option.none 0 0], .bool false])) w' :=
  ⟨Option.none, 0, by rw [h]; rfl, by rw [h]; exact Or.inl rfl, hx⟩

set_option maxRecDepth 100000 in
set_option maxHeartbeats 4000000 in
theorem sValAt_any (n : Int) (f : F) (p : List Int) (a : Option Addr) (cap : Nat) (pa : Option Addr) (pc : Nat) (lo : Nat) (w : World) (hp : p.length ≤ 1000000000) (hl : len f ≤ 1000000000) (hs : Sm f) (hT : VA w lo f a) (hP : PA w 0 p pa) :
    Calls Try.prog 36 #[.agg #[.int .i64 n, .slice a (len f) cap], .slice pa p.length pc] w (VAtPost n f p w) := by
  have T : Hid (VA w lo f a) := hT
  have P : Hid (PA w 0 p pa) := hP
  have IA : Hid (∀ w', Ex w w' → Calls Try.prog 75 #[.agg #[.int .i64 n, .slice a (len f) cap]] w' fun e w'' => e = .returned (.bool (vType 4 n f).isSome) ∧ Ex w' w'') := fun w' h => l1Any_any n f a cap lo w' hl hs (VA_below hT h)
  clear hT hP hl hs
  go_enter Try.func36, Try.ntmps36
  go_wp2_with fail
  refine (IA.out _ ((Ex.new _ _).alloc _)).mono ?_
  rintro e w1 ⟨rfl, hb1⟩
  have hx1 : Ex w w1 := ((Ex.new _ _).alloc _).trans hb1
  have hbx : w1.heap[w.heap.size]? = some (.cells #[.int .i64 n, .slice a (len f) cap] 39 (0, 0)) := hb1.blk ((Ex.new _ _).blk (heap_alloc_new _ _))
  have hrs : w1.heap[w.heap.size + 1]? = some (.cells #[.int .i64 0, .slice none 0 0] 39 (0, 0)) := hb1.blk (heap_alloc_at _ _ (by simp))
  have d0 := two_cell0 hrs
  have d1 := two_cell1 hrs
  have d2 := two_free (i := 0) hrs
  have d3 := two_free (i := 1) hrs
  have FI : Hid (∀ W0 W, W0.heap[w.heap.size + 1]? = some (.cells #[.int .i64 0, .slice none 0 0] 39 (0, 0)) → Ex w W0 → W = (W0.setCell ⟨w.heap.size + 1, 0, none⟩ (.int .i64 0)).setCell ⟨w.heap.size + 1, 1, none⟩ (.slice none 0 0) → W.cell? ⟨w.heap.size + 1, 0, none⟩ = some (.int .i64 0) ∧ W.cell? ⟨w.heap.size + 1, 1, none⟩ = some (.slice none 0 0) ∧ Ex w W) := fun W0 W h1 h2 h3 => by
    subst h3
    have := two_set (u' := .int .i64 0) (v' := .slice none 0 0) h1
    exact ⟨two_cell0 this, two_cell1 this, (h2.set (Nat.le_succ _) _).set (Nat.le_succ _) _⟩
  cases hf : vType 4 n f with
  | none =>
    have HR : Hid (valAtR n f p = ((0, .nil), false)) := by simp [Hid, valAtR, hf]
    simp only [Option.isSome_none]
    clear hf
    go_wp2_with fail
    obtain ⟨hr0, hr1, hxf⟩ := FI.out w1 _ hrs hx1 rfl
    refine bodyPost_ret (v := .tuple #[.agg #[.int .i64 0, .slice none 0 0], .bool false]) (by simp [results, Try.results36, go_sem, hr0, hr1]) rfl ?_
    exact VAtPost.none HR.out hxf
  | some u0 =>
  have HF : Hid (vType 4 n f = some u0) := hf
  simp only [Option.isSome_some]
  clear hf
  go_wp2_with fail
  go_loopw [6] (fun i wr => ∃ (k : Nat) (m : Int) (g : F) (a' : Option Addr) (cap' : Nat), k ≤ p.length ∧ i = .int .i64 k ∧ partV m g (p.drop k) = partV n f p ∧ VA w lo g a' ∧ (∃ r u, r ≤ 4 ∧ vType r m g = some u) ∧ Ex w wr ∧ wr.heap[w.heap.size]? = some (.cells #[.int .i64 m, .slice a' (len g) cap'] 39 (0, 0)) ∧ wr.heap[w.heap.size + 1]? = some (.cells #[.int .i64 0, .slice none 0 0] 39 (0, 0))) (fun i _ => p.length - (intOf i).toNat)
  case atStart => exact ⟨0, n, f, a, cap, Nat.zero_le _, rfl, rfl, T.out, ⟨4, u0, Nat.le_refl _, HF.out⟩, hx1, hbx, hrs⟩
  case round =>
    obtain ⟨k, m, g, a', cap', hk, rfl, hpg, hg, ⟨r, u, hr4, hfr⟩, hx, hbx, hrs⟩ := hrel
    have PG : Hid (partV m g (p.drop k) = partV n f p) := hpg
    have TG : Hid (VA w lo g a') := hg
    have FG : Hid (vType r m g = some u) := hfr
    clear hpg hg hfr d0 d1 d2 d3
    have b0 := two_cell0 hbx
    have b1 := two_cell1 hbx
    have b2 := two_free (i := 0) hbx
    have b3 := two_free (i := 1) hbx
    have d0 := two_cell0 hrs
    have d1 := two_cell1 hrs
    have d2 := two_free (i := 0) hrs
    have d3 := two_free (i := 1) hrs
    have SM : Hid (len g ≤ 2 ∧ Sm g ∧ dep g < r) := vType_sm r m g u FG.out
    by_cases hlt : k < p.length
    · obtain ⟨pb, po, rfl, hpb, _, hpc⟩ := PA_at (PA_below P.out hx) (by omega)
      obtain ⟨x, hxe⟩ : ∃ x, x = p.getD k 0 := ⟨_, rfl⟩
      have hck := hpc k hlt
      rw [← hxe] at hck
      have hpd : partV n f p = if 0 ≤ x ∧ x < len g then partV (num g x.toNat) (kid g x.toNat) (p.drop (k + 1)) else none := by
        rw [← PG.out, drop_cons p k hlt, ← hxe]; rfl
      have PD : Hid _ := hpd
      have hsz := SM.out.1
      have KS : Hid (∀ w', Ex wr w' → (Ex wr w' ∧ w'.cell? ⟨w.heap.size, 1, none⟩ = some (.slice a' (len g) cap') ∧ w'.cell? ⟨pb, po + k, none⟩ = some (.int .i64 x))) := fun w' h => ⟨h, Ex.at h b1, Ex.at h hck⟩
      have wr1 : IntKind.i64.wrap ((len g : Int) - 1) = (len g : Int) - 1 := by rw [IntKind.wrap_i64]; omega
      have i0 : (0 : Int) ≤ (k : Int) := by omega
      have i1 : (k : Int) < (p.length : Int) := by omega
      clear hpc hxe hpd
      go_wp2_with fail
      go_region_held3 (fun w' => Ex wr w' ∧ w'.cell? ⟨w.heap.size, 1, none⟩ = some (.slice a' (len g) cap') ∧ w'.cell? ⟨pb, po + k, none⟩ = some (.int .i64 x)) ((refine KS.out _ ?_; first | exact (Ex.refl _).drew | exact Ex.trans (And.left ‹Ex _ _ ∧ _›) ‹Ex _ _›)) (first | (go_at_call 57; refine (l6In_any _ _ _ _).mono ?_; rintro e w2 ⟨rfl, hb2⟩))
      have hx2 : Ex wr w2 := And.left ‹Ex wr w2 ∧ _›
      have hbx2 := hx2.blk hbx
      have hrs2 := hx2.blk hrs
      have hck2 := hx2.at hck
      have hxw : Ex w w2 := hx.trans hx2
      clear b0 b1 b2 b3 d0 d1 d2 d3
      have b0 := two_cell0 hbx2
      have b1 := two_cell1 hbx2
      have b2 := two_free (i := 0) hbx2
      have b3 := two_free (i := 1) hbx2
      have d0 := two_cell0 hrs2
      have d1 := two_cell1 hrs2
      have d2 := two_free (i := 0) hrs2
      have d3 := two_free (i := 1) hrs2
      by_cases hxx : 0 ≤ x ∧ x < len g
      · obtain ⟨hx0, hxl⟩ := hxx
        have e0 : decide (0 ≤ x) = true := by simp; omega
        have e1 : decide (x ≤ (len g : Int) - 1) = true := by simp; omega
        obtain ⟨b, o, rfl, hlo, hbs, hkk⟩ := VA_at TG.out (by omega)
        obtain ⟨hn3, a3, k3, hc3, ht3⟩ := hkk x.toNat (by omega)
        have hc3' := hxw.at hc3
        have hn3' := hxw.at hn3
        have T3 : Hid (VA w lo (kid g x.toNat) a3) := ht3
        clear hkk hc3 ht3 hn3
        rw [e0, e1]
        go_wp2_with fail
        go_region
        go_wp2_with fail
        go_roundw
        case rel =>
          exact ⟨k + 1, num g x.toNat, kid g x.toNat, a3, k3, by omega, by go_num, by rw [PD.out, if_pos ⟨hx0, hxl⟩], T3.out, vType_kid FG.out hr4 _ (by omega), ((hxw.set (Nat.le_refl _) _).set (Nat.le_refl _) _).drew, two_set hbx2, (Below.heap_setCell _ _ _ _ (by show w.heap.size + 1 ≠ w.heap.size; omega)).trans ((Below.heap_setCell _ _ _ _ (by show w.heap.size + 1 ≠ w.heap.size; omega)).trans hrs2)⟩
        case measure => simp [intOf]; omega
      · have HN : Hid (partV n f p = none) := by show _ = _; rw [PD.out, if_neg hxx]
        have HR : Hid (valAtR n f p = ((0, .nil), false)) := by simp [Hid, valAtR, HN.out]
        by_cases hx0 : 0 ≤ x
        · have e0 : decide (0 ≤ x) = true := by simp; omega
          have e1 : decide (x ≤ (len g : Int) - 1) = false := by simp; omega
          rw [e0, e1]
          go_wp2_with fail
          obtain ⟨hr0, hr1, hxf⟩ := FI.out w2 _ hrs2 hxw rfl
          refine bodyPost_ret (v := .tuple #[.agg #[.int .i64 0, .slice none 0 0], .bool false]) (by simp [results, Try.results36, go_sem, hr0, hr1]) rfl ?_
          exact VAtPost.none HR.out hxf
        · have e0 : decide (0 ≤ x) = false := by simp; omega
          have e1 : decide (x ≤ (len g : Int) - 1) = true := by simp; omega
          rw [e0, e1]
          go_wp2_with fail
          obtain ⟨hr0, hr1, hxf⟩ := FI.out w2 _ hrs2 hxw rfl
          refine bodyPost_ret (v := .tuple #[.agg #[.int .i64 0, .slice none 0 0], .bool false]) (by simp [results, Try.results36, go_sem, hr0, hr1]) rfl ?_
          exact VAtPost.none HR.out hxf
    · have hd : p.drop k = [] := List.drop_eq_nil_of_le (by omega)
      have hs : partV n f p = some (m, g) := by rw [← PG.out, hd]; rfl
      have HR : Hid (valAtR n f p = ((m, g), true)) := by simp [Hid, valAtR, HF.out, hs]
      have hsm := SM.out
      clear hs hd
      go_wp2_with fail
      refine (l1Anew_any (dep g + 1) m g a' cap' lo _ (by omega) (by omega) hsm.2.1 (VA_below TG.out hx)).mono ?_
      rintro e w3 ⟨a3, k3, rfl, ht3, hb3⟩
      have hrs3 := hb3.blk hrs
      have T3 : Hid _ := ht3.va
      have z3 := lt_of_block hrs
      clear ht3 b0 b1 b2 b3 d0 d1 d2 d3
      have d0 := two_cell0 hrs3
      have d1 := two_cell1 hrs3
      have d2 := two_free (i := 0) hrs3
      have d3 := two_free (i := 1) hrs3
      go_wp2_with fail
      have hb4 := two_set (u' := .int .i64 m) (v' := .slice a3 (len g) k3) hrs3
      have hr0 := two_cell0 hb4
      have hr1 := two_cell1 hb4
      refine bodyPost_ret (v := .tuple #[.agg #[.int .i64 m, .slice a3 (len g) k3], .bool true]) (by simp [results, Try.results36, go_sem, hr0, hr1]) rfl ⟨a3, k3, by rw [HR.out], ?_, ((hx.trans hb3).set (Nat.le_succ _) _).set (Nat.le_succ _) _⟩
      rw [HR.out]
      exact VA_lo (VA_kp T3.out (((Kp.refl _ _).set (Or.inl (by show w.heap.size + 1 < _; omega)) _).set (Or.inl (by show w.heap.size + 1 < _; omega)) _)) (by omega)

end Go.Proofs.Ytomnekiiccbioaa
