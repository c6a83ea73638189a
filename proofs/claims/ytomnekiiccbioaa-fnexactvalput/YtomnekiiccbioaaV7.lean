/- Walks: a part of a value by a path. -/
import Derived.Test.YtomnekiiccbioaaV6
namespace Go.Proofs.Ytomnekiiccbioaa
open Go.RowKit Go.Deep
attribute [local go_sem ↓] Go.wp_at_zero Go.wp_at_succ

/-- The part of a value by a path. -/
def partV : Int → F → List Int → Option (Int × F)
  | n, f, [] => some (n, f)
  | _, f, i :: p => if 0 ≤ i ∧ i < len f then partV (num f i.toNat) (kid f i.toNat) p else none

theorem valKids_any (n : Int) (a : Option Addr) (l cap : Nat) (w : World) :
    Calls Try.prog 73 #[.agg #[.int .i64 n, .slice a l cap]] w fun e w' => e = .returned (.slice a l cap) ∧ Ex w w' := by
  go_enter Try.func73, Try.ntmps73
  go_wp2_with fail
  go_ret
  exact ⟨rfl, Ex.new _ _⟩

theorem two_cell0 {w : World} {b : Nat} {u v : Value} {t : TypeId} (h : w.heap[b]? = some (.cells #[u, v] t (0, 0))) : w.cell? ⟨b, 0, none⟩ = some u := by simp [World.cell?, h]
theorem two_cell1 {w : World} {b : Nat} {u v : Value} {t : TypeId} (h : w.heap[b]? = some (.cells #[u, v] t (0, 0))) : w.cell? ⟨b, 1, none⟩ = some v := by simp [World.cell?, h]
theorem two_free {w : World} {b i : Nat} {u v : Value} {t : TypeId} (h : w.heap[b]? = some (.cells #[u, v] t (0, 0))) : w.frozen? ⟨b, i, none⟩ = false := by simp [World.frozen?, h]
theorem two_set {w : World} {b : Nat} {u v u' v' : Value} {t : TypeId} (h : w.heap[b]? = some (.cells #[u, v] t (0, 0))) : ((w.setCell ⟨b, 0, none⟩ u').setCell ⟨b, 1, none⟩ v').heap[b]? = some (.cells #[u', v'] t (0, 0)) := by
  simp [World.setCell, Array.getElem?_modify, h]

set_option maxRecDepth 100000 in
set_option maxHeartbeats 1000000 in
theorem partAtV_any (n : Int) (f : F) (p : List Int) (a : Option Addr) (cap : Nat) (pa : Option Addr) (pc : Nat) (lo : Nat) (w : World) (hp : p.length ≤ 1000000000) (hT : VA w lo f a) (hP : PA w 0 p pa) :
    Calls Try.prog 72 #[.agg #[.int .i64 n, .slice a (len f) cap], .slice pa p.length pc, .func (.func 73) #[] #[]] w fun e w' =>
      (∃ m g a' cap', partV n f p = some (m, g) ∧ e = .returned (.tuple #[.agg #[.int .i64 m, .slice a' (len g) cap'], .bool true]) ∧ VA w' lo g a' ∧ Ex w w') ∨ (partV n f p = none ∧ e = .returned (.tuple #[.agg #[.int .i64 0, .slice none 0 0], .bool false]) ∧ Ex w w') := by
  have T : Hid (VA w lo f a) := hT
  have P : Hid (PA w 0 p pa) := hP
  clear hT hP
  go_enter Try.func72, Try.ntmps72
  go_wp2_with fail
  go_loopw [14] (fun i wr => ∃ (k : Nat) (m : Int) (g : F) (a' : Option Addr) (cap' : Nat), k ≤ p.length ∧ i = .int .i64 k ∧ partV m g (p.drop k) = partV n f p ∧ VA w lo g a' ∧ Ex w wr ∧ wr.heap[w.heap.size]? = some (.cells #[.int .i64 m, .slice a' (len g) cap'] 39 (0, 0)) ∧ wr.heap[w.heap.size + 1]? = some (.cells #[.int .i64 0, .slice none 0 0] 39 (0, 0))) (fun i _ => p.length - (intOf i).toNat)
  case atStart => exact ⟨0, n, f, a, cap, Nat.zero_le _, rfl, rfl, T.out, (Ex.new _ _).alloc _, by rw [Below.heap_alloc _ _ _ (by simp)]; exact heap_alloc_new _ _, by rw [← World.size_alloc w (.cells #[.int .i64 n, .slice a (len f) cap] 39)]; exact heap_alloc_new _ _⟩
  case round =>
    obtain ⟨k, m, g, a', cap', hk, rfl, hpg, hg, hx, hbx, hrs⟩ := hrel
    have PG : Hid (partV m g (p.drop k) = partV n f p) := hpg
    have TG : Hid (VA w lo g a') := hg
    have c0 := two_cell0 hbx
    have c1 := two_cell1 hbx
    have c3 := two_cell0 hrs
    have c4 := two_cell1 hrs
    have r0 := two_free (i := 0) hrs
    have r1 := two_free (i := 1) hrs
    clear hpg hg
    by_cases hlt : k < p.length
    · obtain ⟨pb, po, rfl, hpb, _, hpc⟩ := PA_at (PA_below P.out hx) (by omega)
      obtain ⟨x, hxe⟩ : ∃ x, x = p.getD k 0 := ⟨_, rfl⟩
      have hck := hpc k hlt
      rw [← hxe] at hck
      have hpd : partV n f p = if 0 ≤ x ∧ x < len g then partV (num g x.toNat) (kid g x.toNat) (p.drop (k + 1)) else none := by
        rw [← PG.out, drop_cons p k hlt, ← hxe]; rfl
      have PD : Hid _ := hpd
      clear hpc hxe hpd
      go_wp2_with fail
      refine (valKids_any _ _ _ _ _).mono ?_
      rintro e w1 ⟨rfl, hb1⟩
      have hbx1 := hb1.blk hbx
      have hrs1 := hb1.blk hrs
      have d0 := two_cell0 hbx1
      have d1 := two_cell1 hbx1
      have d2 := two_free (i := 0) hbx1
      have d2' := two_free (i := 1) hbx1
      have d3 := two_cell0 hrs1
      have d3' := two_cell1 hrs1
      have d4 := two_free (i := 0) hrs1
      have d4' := two_free (i := 1) hrs1
      have d5 := lt_of_block hrs1
      have hx1 : Ex w w1 := hx.trans hb1
      clear c0 c1 c3 c4 r0 r1 hbx hrs
      by_cases hxx : 0 ≤ x ∧ x < len g
      · obtain ⟨hx0, hxl⟩ := hxx
        have e0 : decide (x < 0) = false := by simp; omega
        obtain ⟨b, o, rfl, hlo, hbs, hkk⟩ := VA_at TG.out (by omega)
        obtain ⟨hn2, a2, k2, hc2, ht2⟩ := hkk x.toNat (by omega)
        have hn3 := hx1.at hn2
        have hc3 := hx1.at hc2
        have T3 : Hid (VA w lo (kid g x.toNat) a2) := ht2
        clear hkk ht2 hn2 hc2
        go_wp2_with fail
        go_roundw
        case rel =>
          exact ⟨k + 1, num g x.toNat, kid g x.toNat, a2, k2, by omega, by go_num, by rw [PD.out, if_pos ⟨hx0, hxl⟩], T3.out, (hx1.set (Nat.le_refl _) _).set (Nat.le_refl _) _, two_set hbx1, by rw [Below.heap_setCell _ _ _ _ (by simp), Below.heap_setCell _ _ _ _ (by simp)]; exact hrs1⟩
        case measure => simp [intOf]; omega
      · have HN : Hid (partV n f p = none) := by show _ = _; rw [PD.out, if_neg hxx]
        by_cases hx0 : x < 0
        · have e0 : decide (x < 0) = true := by simp; omega
          go_wp2_with fail
          have hb2 := (Ex.new _ (.cells #[.int .i64 0, .slice none 0 0] 39)).blk (two_set (u' := .int .i64 0) (v' := .slice none 0 0) hrs1)
          have hr0 := two_cell0 hb2
          have hr1 := two_cell1 hb2
          exact bodyPost_ret (v := .tuple #[.agg #[.int .i64 0, .slice none 0 0], .bool false]) (by simp [results, Try.results72, go_sem, hr0, hr1]) rfl (Or.inr ⟨HN.out, rfl, ((hx1.set (Nat.le_succ _) _).set (Nat.le_succ _) _).alloc _⟩)
        · have e0 : decide (x < 0) = false := by simp; omega
          have e1 : (len g : Int) ≤ x := by omega
          go_wp2_with fail
          have hb2 := (Ex.new _ (.cells #[.int .i64 0, .slice none 0 0] 39)).blk (two_set (u' := .int .i64 0) (v' := .slice none 0 0) hrs1)
          have hr0 := two_cell0 hb2
          have hr1 := two_cell1 hb2
          exact bodyPost_ret (v := .tuple #[.agg #[.int .i64 0, .slice none 0 0], .bool false]) (by simp [results, Try.results72, go_sem, hr0, hr1]) rfl (Or.inr ⟨HN.out, rfl, ((hx1.set (Nat.le_succ _) _).set (Nat.le_succ _) _).alloc _⟩)
    · have hd : p.drop k = [] := List.drop_eq_nil_of_le (by omega)
      have hs : partV n f p = some (m, g) := by rw [← PG.out, hd]; rfl
      have HS : Hid (partV n f p = some (m, g)) := hs
      clear hs hd
      go_wp2_with fail
      have hb2 := two_set (u' := .int .i64 m) (v' := .slice a' (len g) cap') hrs
      have hr0 := two_cell0 hb2
      have hr1 := two_cell1 hb2
      have hxf : Ex w ((wr.setCell ⟨w.heap.size + 1, 0, none⟩ (.int .i64 m)).setCell ⟨w.heap.size + 1, 1, none⟩ (.slice a' (len g) cap')) := (hx.set (Nat.le_succ _) _).set (Nat.le_succ _) _
      exact bodyPost_ret (v := .tuple #[.agg #[.int .i64 m, .slice a' (len g) cap'], .bool true]) (by simp [results, Try.results72, go_sem, hr0, hr1]) rfl (Or.inl ⟨m, g, a', cap', HS.out, rfl, VA_below TG.out hxf, hxf⟩)

theorem partV_ok : ∀ (p : List Int) (r : Nat) (n : Int) (f u : F) (m : Int) (g : F), vType r n f = some u → partV n f p = some (m, g) → ∃ r' u', vType r' m g = some u'
  | [], r, n, f, u, m, g, h, e => by cases e; exact ⟨r, u, h⟩
  | i :: p, 0, n, f, u, m, g, h, e => by simp [vType] at h
  | i :: p, r + 1, n, f, u, m, g, h, e => by
    simp only [partV] at e
    split at e
    · rename_i hi
      obtain h0 | ⟨h2, _, a, b, ha, hb⟩ := vType_some h
      · omega
      · have : i.toNat = 0 ∨ i.toNat = 1 := by omega
        rcases this with hi | hi <;> rw [hi] at e
        · exact partV_ok p r _ _ a m g ha e
        · exact partV_ok p r _ _ b m g hb e
    · cases e

end Go.Proofs.Ytomnekiiccbioaa
