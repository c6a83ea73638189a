/- Walks: a text that is built, and all beside it as it was. -/
import Derived.Test.YtpibamhkmmgooaaGreatDoorT2

import Derived.Test.YtpibamhkmmgooaaGreatDoorTO0

namespace Go.Proofs.YtpibamhkmmgooaaGreatDoor

open Go.RowKit Go.Deep

attribute [local go_sem ↓] Go.wp_at_zero Go.wp_at_succ

/-- A builder in block b, with the text t; its buffer lies from block B on. -/
def Bd (B b : Nat) (t : ByteArray) (w : World) : Prop := Lib.IsBuilder 50 5 B b (Lib.strCells t) w

/-- Below B all is as it was; and all from there on, but the builder and bytes. -/
structure Fx (B b : Nat) (w w' : World) : Prop where
  below : Below B w w'
  typed : ∀ k cs T fr, k ≠ b → w.heap[k]? = some (.cells cs T fr) → T ≠ 5 → w'.heap[k]? = some (.cells cs T fr)

theorem Fx.refl (B b : Nat) (w : World) : Fx B b w w := ⟨Below.refl _ _, fun _ _ _ _ _ h _ => h⟩
theorem Fx.trans {B b : Nat} {w1 w2 w3 : World} (h : Fx B b w1 w2) (k : Fx B b w2 w3) : Fx B b w1 w3 :=
  ⟨h.below.trans k.below, fun i cs T fr hi hc hT => k.typed i cs T fr hi (h.typed i cs T fr hi hc hT) hT⟩
theorem Fx.of_ex {B b : Nat} {w w' : World} (hB : B ≤ w.heap.size) (h : Ex w w') : Fx B b w w' := ⟨Below.mono h hB, fun _ _ _ _ _ hc _ => h.blk hc⟩
theorem Fx.ex {B b : Nat} {w1 w2 w3 : World} (h : Fx B b w1 w2) (hB : B ≤ w1.heap.size) (k : Ex w2 w3) : Fx B b w1 w3 := h.trans (Fx.of_ex (Nat.le_trans hB h.below.size) k)
theorem Fx.ks {B b : Nat} {w w' : World} (h : Fx B b w w') : Ks (fun k => k < B) w w' := fun k hk _ => h.below.block k hk

theorem Bd.lt {B b : Nat} {t : ByteArray} {w : World} (h : Bd B b t w) : b < w.heap.size := by
  rcases h with h | h
  · exact h.lt
  · exact h.lt
theorem Bd.le {B b : Nat} {t : ByteArray} {w : World} (h : Bd B b t w) : B ≤ b := by
  rcases h with h | h
  · exact h.1
  · exact h.1
theorem BuilderAt_ex {T e : TypeId} {B b : Nat} {p : Value} {bs : List Value} {w w' : World} (h : Lib.BuilderAt T e B b p bs w) (hx : Ex w w') : Lib.BuilderAt T e B b p bs w' := by
  obtain ⟨h1, v, h2, h3, h4⟩ := h
  refine ⟨h1, v, hx.blk h2, ?_, h4⟩
  obtain ⟨q0, q | ⟨g, cap, cur, q1, q2, q3, q4⟩⟩ := h3
  · exact ⟨q0, Or.inl q⟩
  · exact ⟨q0, Or.inr ⟨g, cap, cur, q1, q2, hx.blk q3, q4⟩⟩
theorem Bd.ex {B b : Nat} {t : ByteArray} {w w' : World} (h : Bd B b t w) (hx : Ex w w') : Bd B b t w' := by
  rcases h with h | h
  · exact Or.inl (BuilderAt_ex h hx)
  · exact Or.inr (BuilderAt_ex h hx)
theorem Bd.new (w : World) : Bd w.heap.size w.heap.size ⟨#[]⟩ (w.alloc (.cells #[.pointer none, .slice none 0 0] 50)) := Lib.fresh_isBuilder _ _ w
theorem strCells_append (a b : ByteArray) : Lib.strCells (a ++ b) = Lib.strCells a ++ Lib.strCells b := by simp [Lib.strCells]

/-- What is built, told. -/
theorem string_any {B b : Nat} {t : ByteArray} {w : World} (h : Bd B b t w) :
    Calls Tryz.prog 18 #[.pointer (some ⟨b, 0, none⟩)] w fun e w' => e = .returned (.string t) ∧ Below B w w' :=
  Tryz.Builder_String_any B b t.data.toList w h (Nat.le_of_lt (Nat.lt_of_le_of_lt h.le h.lt))

theorem infoByte : (Tryz.prog.info? 5).map (fun i => (i.zero, i.size, i.bytes)) = some (some (.int .u8 0), 1, 1) := by kernel_rfl

/-- Ahead of a write. -/
theorem copyCheck_any (B b : Nat) (t : ByteArray) (w : World) (h : Bd B b t w) :
    Calls Tryz.prog 31 #[.pointer (some ⟨b, 0, none⟩)] w fun e w' => e = .returned (.tuple #[]) ∧ Lib.BuilderAt 50 5 B b (.pointer (some ⟨b, 0, none⟩)) (Lib.strCells t) w' ∧ Fx B b w w' := by
  rcases h with h | h
  · have hc := Any.Builder_copyCheck_fresh (ρ := Tryz.lays156_ren) { Tryz.lays156 with } Tryz.Builder_Extra_156.toX72 b w h.cell0 h.shape h.frozen0
    change Calls Tryz.prog 31 _ _ _ at hc
    refine hc.mono ?_
    rintro e w' ⟨rfl, rfl⟩
    exact ⟨rfl, h.used _, (Below.refl B w).setCell (p := ⟨b, 0, none⟩) h.1 _, fun k cs T fr hk hcs _ => by rw [Below.heap_setCell _ _ _ _ (fun e => hk e)]; exact hcs⟩
  · have hc := Any.Builder_copyCheck_used (ρ := Tryz.lays156_ren) { Tryz.lays156 with } Tryz.Builder_Extra_156.toX72 b w h.cell0
    change Calls Tryz.prog 31 _ _ _ at hc
    refine hc.mono ?_
    rintro e w' ⟨rfl, rfl⟩
    exact ⟨rfl, h, Fx.refl _ _ _⟩

set_option maxRecDepth 100000 in
set_option maxHeartbeats 2000000 in
/-- A write. -/
theorem write_any (B b : Nat) (t s : ByteArray) (w : World) (h : Bd B b t w) (hlen : t.size + s.size ≤ 140737488355328) :
    Calls Tryz.prog 15 #[.pointer (some ⟨b, 0, none⟩), .string s] w fun e w' => e = .returned (.tuple #[.int .i64 s.size, .nilIface]) ∧ Bd B b (t ++ s) w' ∧ Fx B b w w' := by
  obtain ⟨i0, hi, hz0, hz1, hz2⟩ := info_parts infoByte
  have hBb : B ≤ w.heap.size := Nat.le_of_lt (Nat.lt_of_le_of_lt h.le h.lt)
  have CC := copyCheck_any B b t w h
  clear h
  go_enter Tryz.func15, Tryz.ntmps15
  go_wp2_with fail
  refine Calls.mono CC ?_
  rintro e w1 ⟨rfl, h1, hx1⟩
  obtain ⟨hB, v, hbk, hown, hne⟩ := h1
  have hlt : b < w1.heap.size := by
    rcases Nat.lt_or_ge b w1.heap.size with h' | h'
    · exact h'
    · simp [Array.getElem?_eq_none h'] at hbk
  have hB1 : B ≤ w1.heap.size := Nat.le_trans hBb hx1.below.size
  have X1 : Hid _ := hx1
  have c0 : w1.cell? ⟨b, 0, none⟩ = some (.pointer (some ⟨b, 0, none⟩)) := by rw [Lib.cell_of_heap hbk]; rfl
  have c1 : w1.cell? ⟨b, 1, none⟩ = some v := by rw [Lib.cell_of_heap hbk]; rfl
  have m1 : t.size + s.size ≤ maxLen := by unfold maxLen; omega
  rw [Lib.strCells_length] at hown
  clear CC hx1
  go_wp2_with (at_builtin; refine Lib.wpList_append_own_string _ rfl _ _ 48 9 rfl B 5 i0 Tryz.underlying48 Tryz.underlying9 hi hz0 hz1 hz2 v t.size (Lib.strCells t) rfl hown s rfl m1 hlen hB1 ?_)
  intro v' w2 hown' hgrow _
  have hb2 : w2.heap[b]? = some (.cells #[.pointer (some ⟨b, 0, none⟩), v] 50 (0, 0)) := by
    rw [hgrow.block b hlt (fun e => hne e.symm)]
    exact hbk
  have d0 : w2.cell? ⟨b, 0, none⟩ = some (.pointer (some ⟨b, 0, none⟩)) := by rw [Lib.cell_of_heap hb2]; rfl
  have d1 : w2.cell? ⟨b, 1, none⟩ = some v := by rw [Lib.cell_of_heap hb2]; rfl
  have f1 : w2.frozen? ⟨b, 1, none⟩ = false := Lib.frozen_of_heap hb2 1
  obtain ⟨ao, n', cap, rfl⟩ : ∃ ao n' cap, v' = .slice ao n' cap := by
    rcases hown'.2 with ⟨hv, _⟩ | ⟨g, cap, cur, hv, _⟩
    · exact ⟨_, _, _, hv⟩
    · exact ⟨_, _, _, hv⟩
  have HO : Hid _ := hown'
  have HW : Hid _ := hown
  have HG : Hid _ := hgrow
  have HB : Hid _ := hb2
  have HB0 : Hid (B ≤ b) := hB
  clear hown hown' hgrow c0 c1 hbk hb2 hB
  go_wp2_with fail
  go_ret2
  refine ⟨rfl, Or.inr ?_, X1.out.trans ⟨?_, ?_⟩⟩
  · refine Lib.BuilderAt.put (T := 50) (e := 5) HB0.out HB.out (bs' := Lib.strCells (t ++ s)) ?_ (by decide)
    rw [Lib.strCells_length, ByteArray.size_append, strCells_append]
    exact HO.out
  · exact ((Below.refl B w1).grown HG.out hB1 (fun k hk => (World.ownsRow.lt HW.out k hk).1)).setCell (p := ⟨b, 1, none⟩) HB0.out _
  · intro k cs T fr hk hcs hT
    rw [Below.heap_setCell _ _ _ _ (fun e => hk e)]
    have hkl : k < w1.heap.size := by
      rcases Nat.lt_or_ge k w1.heap.size with h' | h'
      · exact h'
      · simp [Array.getElem?_eq_none h'] at hcs
    rw [HG.out.block k hkl (fun e => Lib.ownBlock_ne HW.out hcs hT e.symm)]
    exact hcs

end Go.Proofs.YtpibamhkmmgooaaGreatDoor
