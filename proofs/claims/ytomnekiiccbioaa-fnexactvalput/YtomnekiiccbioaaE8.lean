/- Walks: a part of a value, by the program, in memory of its own. -/
import Derived.Test.YtomnekiiccbioaaE7
namespace Go.Proofs.Ytomnekiiccbioaa
open Go.RowKit Go.Deep
attribute [local go_sem ↓] Go.wp_at_zero Go.wp_at_succ

theorem valAt_type (n : Int) (f : F) (p : List Int) : ∃ v, vType 4 (valAtR n f p).1.1 (valAtR n f p).1.2 = some v := by
  cases h : (valAtR n f p).2 with
  | true =>
    obtain ⟨u, m, g, v, _, _, hv, _, he⟩ := valAt_ok h
    rw [he]; exact ⟨v, hv⟩
  | false =>
    have : valAtR n f p = ((0, .nil), false) := by
      unfold valAtR at h ⊢
      split
      · rename_i m g e; rw [e] at h; cases h
      · rfl
    rw [this]; exact ⟨.nil, rfl⟩

set_option maxRecDepth 100000 in
set_option maxHeartbeats 2000000 in
theorem iValAtO_any (n : Int) (f : F) (p : List Int) (a : Option Addr) (cap : Nat) (pa : Option Addr) (pc : Nat) (lo : Nat) (w : World) (hp : p.length ≤ 1000000000) (hT : VA w lo f a) (hP : PA w 0 p pa) :
    Calls Try.prog 34 #[.agg #[.int .i64 n, .slice a (len f) cap], .slice pa p.length pc] w (PutPost (valAtR n f p) w) := by
  have IV : Hid (∀ w', Ex w w' → Calls Try.prog 69 #[.agg #[.int .i64 n, .slice a (len f) cap]] w' fun e w'' => ∃ a' c', e = .returned (.tuple #[.agg #[.slice a' (len ((vType 4 n f).getD .nil)) c'], .bool (vType 4 n f).isSome]) ∧ TA w'' w'.heap.size ((vType 4 n f).getD .nil) a' ∧ Ex w' w'') := fun w' h => valType_any n f a cap lo w' (VA_below hT h)
  have IP : Hid (∀ u w', vType 4 n f = some u → Ex w w' → Calls Try.prog 72 #[.agg #[.int .i64 n, .slice a (len f) cap], .slice pa p.length pc, .func (.func 73) #[] #[]] w' fun e w'' =>
      ∃ (m : Int) (g : F) (ok : Bool) (a' : Option Addr) (cap' r' : Nat) (u' : F), valAtR n f p = ((m, g), ok) ∧ vType r' m g = some u' ∧ e = .returned (.tuple #[.agg #[.int .i64 m, .slice a' (len g) cap'], .bool ok]) ∧ VA w'' lo g a' ∧ Ex w' w'') := fun u w' hu h => partAtV_one n f u p a cap pa pc lo w' hp hu (VA_below hT h) (PA_below hP h)
  have ATY : Hid (∀ m g ok, valAtR n f p = ((m, g), ok) → ∃ v, vType 4 m g = some v) := fun m g ok h => by have := valAt_type n f p; rw [h] at this; exact this
  have R0 : Hid (vType 4 n f = none → valAtR n f p = ((0, .nil), false)) := fun h => by simp [valAtR, h]
  clear hT hP
  obtain ⟨o, ho⟩ : ∃ o, o = vType 4 n f := ⟨_, rfl⟩
  rw [← ho] at IV IP R0
  obtain ⟨z, hz⟩ : ∃ z, z = valAtR n f p := ⟨_, rfl⟩
  rw [← hz] at IP R0 ATY ⊢
  clear ho hz
  cases o with
  | none =>
    have e : z = ((0, .nil), false) := R0.out rfl
    subst e
    go_enter Try.func34, Try.ntmps34
    go_wp2_with fail
    refine (IV.out _ ((Ex.new _ _).alloc _)).mono ?_
    rintro e w1 ⟨a1, c1, rfl, ht1, hb1⟩
    simp only [Option.getD_none, Option.isSome_none, len] at *
    have rb : w1.heap[w.heap.size + 1]? = some (.cells #[.int .i64 0, .slice none 0 0] 39 (0, 0)) := hb1.blk (by have := heap_alloc_new (w.alloc (.cells #[.int .i64 n, .slice a (len f) cap] 39)) (.cells #[.int .i64 0, .slice none 0 0] 39); rwa [World.size_alloc] at this)
    have d0 := two_cell0 rb
    have d1 := two_cell1 rb
    have d2 := two_free (i := 0) rb
    have d3 := two_free (i := 1) rb
    have d5 := lt_of_block rb
    have x1 : Ex w w1 := ((Ex.new _ _).alloc _).trans hb1
    clear ht1
    go_wp2_with fail
    have hb4 := (Ex.new _ (.cells #[.slice a1 0 c1] 25)).blk (two_set (u' := .int .i64 0) (v' := .slice none 0 0) rb)
    have hr0 := two_cell0 hb4
    have hr1 := two_cell1 hb4
    have hxf := ((x1.set (p := ⟨w.heap.size + 1, 0, none⟩) (Nat.le_succ _) (.int .i64 0)).set (p := ⟨w.heap.size + 1, 1, none⟩) (Nat.le_succ _) (.slice none 0 0)).alloc (.cells #[.slice a1 0 c1] 25)
    refine bodyPost_ret (v := .tuple #[.agg #[.int .i64 0, .slice none 0 0], .bool false]) (by simp [results, Try.results34, go_sem, hr0, hr1]) rfl ?_
    exact PutPost.no rfl hxf
  | some u =>
    go_enter Try.func34, Try.ntmps34
    go_wp2_with fail
    refine (IV.out _ ((Ex.new _ _).alloc _)).mono ?_
    rintro e w1 ⟨a1, c1, rfl, ht1, hb1⟩
    simp only [Option.getD_some, Option.isSome_some] at *
    have x1 : Ex w w1 := ((Ex.new _ _).alloc _).trans hb1
    have rb : w1.heap[w.heap.size + 1]? = some (.cells #[.int .i64 0, .slice none 0 0] 39 (0, 0)) := hb1.blk (by have := heap_alloc_new (w.alloc (.cells #[.int .i64 n, .slice a (len f) cap] 39)) (.cells #[.int .i64 0, .slice none 0 0] 39); rwa [World.size_alloc] at this)
    have q0 : w1.cell? ⟨w.heap.size, 0, none⟩ = some (.int .i64 n) := hb1.at (by simp)
    have q1 : w1.cell? ⟨w.heap.size, 1, none⟩ = some (.slice a (len f) cap) := hb1.at (by simp)
    have z0 : w.heap.size < w1.heap.size := World.block_lt_of_cell? _ _ q0
    clear ht1
    go_wp2_with fail
    refine (IP.out u _ rfl (x1.alloc _)).mono ?_
    rintro e w2 ⟨m, g, ok, a2, c2, r', u', hz, hu', rfl, hv2, hb2⟩
    subst hz
    have V2 : Hid (∀ w', Ex w2 w' → VA w' lo g a2) := fun _ h => VA_below hv2 h
    obtain ⟨vv, hvv⟩ := ATY.out m g ok rfl
    have IC : Hid (∀ w', Ex w2 w' → Calls Try.prog 74 #[.agg #[.int .i64 m, .slice a2 (len g) c2]] w' (CpPost 4 m g w')) := fun w' h => valCopyO_any 4 m g vv a2 c2 lo w' hvv (V2.out _ h)
    have rb2 := hb2.blk ((Ex.new _ _).blk rb)
    have x2 : Ex w w2 := (x1.alloc _).trans hb2
    clear hv2 hu' q0 q1 hvv
    go_wp2_with fail
    refine Calls.mono (IC.out _ (Ex.new _ _)) ?_
    rintro e w3 ⟨a3, c3, rfl, hv3, hb3⟩
    have rb3 := hb3.blk ((Ex.new _ _).blk rb2)
    have d0 := two_cell0 rb3
    have d1 := two_cell1 rb3
    have d2 := two_free (i := 0) rb3
    have d3 := two_free (i := 1) rb3
    have d5 := lt_of_block rb2
    have x3 : Ex w w3 := (x2.alloc _).trans hb3
    have V3 : Hid (VO 4 w3 (fun b => w2.heap.size + 1 ≤ b) g a3) := hv3.mono fun b _ hb => by simpa using hb
    clear hv3
    go_wp2_with fail
    have hb4 := two_set (u' := .int .i64 m) (v' := .slice a3 (len g) c3) rb3
    have hr0 := two_cell0 hb4
    have hr1 := two_cell1 hb4
    refine bodyPost_ret (v := .tuple #[.agg #[.int .i64 m, .slice a3 (len g) c3], .bool ok]) (by simp [results, Try.results34, go_sem, hr0, hr1]) rfl ⟨a3, c3, rfl, VO.upTo (VO.mono (VO.ks V3.out fun b hb _ => ?_) fun b _ hb => ?_) (by omega), (x3.set (Nat.le_succ _) _).set (Nat.le_succ _) _⟩
    · have : w2.heap.size + 1 ≤ b := hb
      rw [Below.heap_setCell _ _ _ _ (by show b ≠ w.heap.size + 1; omega), Below.heap_setCell _ _ _ _ (by show b ≠ w.heap.size + 1; omega)]
    · have : w2.heap.size + 1 ≤ b := hb
      show w.heap.size ≤ b; omega


end Go.Proofs.Ytomnekiiccbioaa
