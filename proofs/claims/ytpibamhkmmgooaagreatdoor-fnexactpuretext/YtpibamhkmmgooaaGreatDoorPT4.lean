/- Walks: the program's text of a binding. -/
import Derived.Test.YtpibamhkmmgooaaGreatDoorPT3

namespace Go.Proofs.YtpibamhkmmgooaaGreatDoor

open Go.RowKit Go.Deep

attribute [local go_sem ↓] Go.wp_at_zero Go.wp_at_succ

/-- What a write leaves. -/
def WrP (B bb : Nat) (t x : ByteArray) (w : World) (e : Ending) (w' : World) : Prop := e = .returned (.tuple #[]) ∧ Bd B bb (t ++ x) w' ∧ Fx B bb w w'

theorem box_fx {B bb : Nat} {w w' : World} {vs : Array Value} {T : TypeId} (h : Fx B bb (w.alloc (.cells vs T)) w') (hb : bb < w.heap.size) (hT : T ≠ 5) : w'.heap[w.heap.size]? = some (.cells vs T (0, 0)) :=
  h.typed _ _ _ _ (by omega) (heap_alloc_new _ _) hT

set_option maxRecDepth 100000 in
set_option maxHeartbeats 4000000 in
theorem bind_one (B bb : Nat) (pre t : ByteArray) (nm : List ByteArray) (a1 : Option Addr) (k1 : Nat) (fn : ByteArray) (ts : TM) (a3 : Option Addr) (k3 : Nat) (tb : BD) (a4 : Option Addr) (k4 : Nat) (tz : TM) (a5 : Option Addr) (k5 : Nat) (eb : BD) (a6 : Option Addr) (k6 : Nat) (ez : TM) (a7 : Option Addr) (k7 : Nat) (w : World) (hBd : Bd B bb t w) (h1 : nm.length = 1) (hz : t.size + (nm.getD 0 ⟨#[]⟩ ++ ⟨#[32, 61]⟩ ++ rowsX ts ++ ⟨#[10]⟩).size ≤ 1000000000)
    (hT : ∀ w', Fx B bb w w' → Calls Tryz.prog 33 #[.slice a3 (tlen ts) k3] w' fun e w'' => e = .returned (.string (rowsX ts)) ∧ Ex w' w'') (hN : ∃ nb no, a1 = some ⟨nb, no, none⟩ ∧ nb < B ∧ w.cell? ⟨nb, no, none⟩ = some (.string (nm.getD 0 ⟨#[]⟩))) :
    Calls Tryz.prog 32 #[.pointer (some ⟨bb, 0, none⟩), .agg #[.int .i64 1, .slice a1 nm.length k1, .string fn, .slice a3 (tlen ts) k3, .slice a4 (blen tb) k4, .slice a5 (tlen tz) k5, .slice a6 (blen eb) k6, .slice a7 (tlen ez) k7], .string pre] w (WrP B bb t (nm.getD 0 ⟨#[]⟩ ++ ⟨#[32, 61]⟩ ++ rowsX ts ++ ⟨#[10]⟩) w) := by
  obtain ⟨nb, no, rfl, hnb, hn0⟩ := hN
  rw [h1]
  have hlt := hBd.lt
  have hle : B ≤ w.heap.size := Nat.le_trans hBd.le (Nat.le_of_lt hlt)
  have RT : Hid _ := hT
  generalize rowsX ts = rx at RT hz ⊢
  generalize nm.getD 0 ⟨#[]⟩ = nm0 at hn0 hz ⊢
  have ee : (⟨#[32, 61]⟩ : ByteArray).size = 2 := rfl
  have ef : (⟨#[10]⟩ : ByteArray).size = 1 := rfl
  have HW : Hid (∀ w', Bd B bb t w' → Calls Tryz.prog 15 #[.pointer (some ⟨bb, 0, none⟩), .string (nm0 ++ ⟨#[32, 61]⟩ ++ rx ++ ⟨#[10]⟩)] w' fun e w'' => e = .returned (.tuple #[.int .i64 (nm0 ++ ⟨#[32, 61]⟩ ++ rx ++ ⟨#[10]⟩).size, .nilIface]) ∧ Bd B bb (t ++ (nm0 ++ ⟨#[32, 61]⟩ ++ rx ++ ⟨#[10]⟩)) w'' ∧ Fx B bb w' w'') := fun w' h => write_any B bb t _ w' h (by omega)
  simp only [ByteArray.size_append] at hz
  have n1 : ¬ 9223372036854775807 < nm0.size + 2 := by omega
  have n2 : ¬ 9223372036854775807 < nm0.size + 2 + rx.size := by omega
  have n3 : ¬ 9223372036854775807 < nm0.size + 2 + rx.size + 1 := by omega
  have N : Hid (Ex w (w.alloc (.cells #[.int .i64 1, .slice (some ⟨nb, no, none⟩) 1 k1, .string fn, .slice a3 (tlen ts) k3, .slice a4 (blen tb) k4, .slice a5 (tlen tz) k5, .slice a6 (blen eb) k6, .slice a7 (tlen ez) k7] 66))) := Ex.new _ _
  have FN : Hid (∀ w', Fx B bb (w.alloc (.cells #[.int .i64 1, .slice (some ⟨nb, no, none⟩) 1 k1, .string fn, .slice a3 (tlen ts) k3, .slice a4 (blen tb) k4, .slice a5 (tlen tz) k5, .slice a6 (blen eb) k6, .slice a7 (tlen ez) k7] 66)) w' → Fx B bb w w') := fun w' h => (Fx.of_ex hle (Ex.new _ _)).trans h
  have BX : Hid (∀ w', Fx B bb (w.alloc (.cells #[.int .i64 1, .slice (some ⟨nb, no, none⟩) 1 k1, .string fn, .slice a3 (tlen ts) k3, .slice a4 (blen tb) k4, .slice a5 (tlen tz) k5, .slice a6 (blen eb) k6, .slice a7 (tlen ez) k7] 66)) w' → w'.heap[w.heap.size]? = some (.cells #[.int .i64 1, .slice (some ⟨nb, no, none⟩) 1 k1, .string fn, .slice a3 (tlen ts) k3, .slice a4 (blen tb) k4, .slice a5 (tlen tz) k5, .slice a6 (blen eb) k6, .slice a7 (tlen ez) k7] 66 (0, 0))) := fun w' h => box_fx h hlt (by decide)
  have HB1 : Hid (B ≤ (w.alloc (.cells #[.int .i64 1, .slice (some ⟨nb, no, none⟩) 1 k1, .string fn, .slice a3 (tlen ts) k3, .slice a4 (blen tb) k4, .slice a5 (tlen tz) k5, .slice a6 (blen eb) k6, .slice a7 (tlen ez) k7] 66)).heap.size) := by show _ ≤ _; rw [World.size_alloc]; omega
  have BD0 : Hid (Bd B bb t (w.alloc (.cells #[.int .i64 1, .slice (some ⟨nb, no, none⟩) 1 k1, .string fn, .slice a3 (tlen ts) k3, .slice a4 (blen tb) k4, .slice a5 (tlen tz) k5, .slice a6 (blen eb) k6, .slice a7 (tlen ez) k7] 66))) := hBd.ex (Ex.new _ _)
  have KX : Hid (∀ w', Fx B bb (w.alloc (.cells #[.int .i64 1, .slice (some ⟨nb, no, none⟩) 1 k1, .string fn, .slice a3 (tlen ts) k3, .slice a4 (blen tb) k4, .slice a5 (tlen tz) k5, .slice a6 (blen eb) k6, .slice a7 (tlen ez) k7] 66)) w' → (Fx B bb (w.alloc (.cells #[.int .i64 1, .slice (some ⟨nb, no, none⟩) 1 k1, .string fn, .slice a3 (tlen ts) k3, .slice a4 (blen tb) k4, .slice a5 (tlen tz) k5, .slice a6 (blen eb) k6, .slice a7 (tlen ez) k7] 66)) w' ∧ (w'.cell? ⟨w.heap.size, 0, none⟩ = some (.int .i64 1) ∧ w'.cell? ⟨w.heap.size, 1, none⟩ = some (.slice (some ⟨nb, no, none⟩) 1 k1) ∧ w'.cell? ⟨w.heap.size, 2, none⟩ = some (.string fn) ∧ w'.cell? ⟨w.heap.size, 3, none⟩ = some (.slice a3 (tlen ts) k3) ∧ w'.cell? ⟨w.heap.size, 4, none⟩ = some (.slice a4 (blen tb) k4) ∧ w'.cell? ⟨w.heap.size, 5, none⟩ = some (.slice a5 (tlen tz) k5) ∧ w'.cell? ⟨w.heap.size, 6, none⟩ = some (.slice a6 (blen eb) k6) ∧ w'.cell? ⟨w.heap.size, 7, none⟩ = some (.slice a7 (tlen ez) k7)) ∧ w'.cell? ⟨nb, no, none⟩ = some (.string nm0))) := fun w' h => ⟨h, ⟨blk_cell (BX.out _ h) 0, blk_cell (BX.out _ h) 1, blk_cell (BX.out _ h) 2, blk_cell (BX.out _ h) 3, blk_cell (BX.out _ h) 4, blk_cell (BX.out _ h) 5, blk_cell (BX.out _ h) 6, blk_cell (BX.out _ h) 7⟩, (World.cell?_of_block (h.below.block nb hnb)).trans ((Ex.new _ _).at hn0)⟩
  clear hBd h1 hz hT hnb hn0 ee ef
  go_enter Tryz.func32, Tryz.ntmps32
  go_wp2_with fail
  go_region_held3 (fun w' => Fx B bb (w.alloc (.cells #[.int .i64 1, .slice (some ⟨nb, no, none⟩) 1 k1, .string fn, .slice a3 (tlen ts) k3, .slice a4 (blen tb) k4, .slice a5 (tlen tz) k5, .slice a6 (blen eb) k6, .slice a7 (tlen ez) k7] 66)) w' ∧ (w'.cell? ⟨w.heap.size, 0, none⟩ = some (.int .i64 1) ∧ w'.cell? ⟨w.heap.size, 1, none⟩ = some (.slice (some ⟨nb, no, none⟩) 1 k1) ∧ w'.cell? ⟨w.heap.size, 2, none⟩ = some (.string fn) ∧ w'.cell? ⟨w.heap.size, 3, none⟩ = some (.slice a3 (tlen ts) k3) ∧ w'.cell? ⟨w.heap.size, 4, none⟩ = some (.slice a4 (blen tb) k4) ∧ w'.cell? ⟨w.heap.size, 5, none⟩ = some (.slice a5 (tlen tz) k5) ∧ w'.cell? ⟨w.heap.size, 6, none⟩ = some (.slice a6 (blen eb) k6) ∧ w'.cell? ⟨w.heap.size, 7, none⟩ = some (.slice a7 (tlen ez) k7)) ∧ w'.cell? ⟨nb, no, none⟩ = some (.string nm0)) ((refine KX.out _ ?_; first | exact (Fx.refl _ _ _).drew | exact Fx.ex (And.left ‹Fx _ _ _ _ ∧ _›) HB1.out ‹Ex _ _› | exact Fx.trans (And.left ‹Fx _ _ _ _ ∧ _›) ‹Fx _ _ _ _›)) (first | (go_at_call 33; refine (RT.out _ (FN.out _ (And.left ‹Fx _ _ _ _ ∧ _›))).mono ?_; rintro e w1 ⟨rfl, hb1⟩; have hbd := Bd.ex BD0.out.drew hb1) | (go_at_call 15; refine (HW.out _ hbd).mono ?_; rintro e w2 ⟨rfl, hbd2, hfx2⟩))
  go_wp2_with fail
  go_end0
  exact ⟨rfl, hbd2, FN.out _ (And.left ‹Fx _ _ _ _ ∧ _›)⟩

set_option maxRecDepth 100000 in
set_option maxHeartbeats 4000000 in
theorem bind_call (B bb : Nat) (pre t : ByteArray) (nm : List ByteArray) (a1 : Option Addr) (k1 : Nat) (fn : ByteArray) (ts : TM) (a3 : Option Addr) (k3 : Nat) (tb : BD) (a4 : Option Addr) (k4 : Nat) (tz : TM) (a5 : Option Addr) (k5 : Nat) (eb : BD) (a6 : Option Addr) (k6 : Nat) (ez : TM) (a7 : Option Addr) (k7 : Nat) (w : World) (hBd : Bd B bb t w) (hz : t.size + (⟨#[108, 101, 116]⟩ ++ namesX nm ++ ⟨#[32, 61, 32]⟩ ++ fn ++ rowsX ts ++ ⟨#[10]⟩).size ≤ 1000000000)
    (hT : ∀ w', Fx B bb w w' → Calls Tryz.prog 33 #[.slice a3 (tlen ts) k3] w' fun e w'' => e = .returned (.string (rowsX ts)) ∧ Ex w' w'') (hN : ∀ w', Fx B bb w w' → Calls Tryz.prog 16 #[.slice a1 nm.length k1] w' fun e w'' => e = .returned (.string (namesX nm)) ∧ Ex w' w'') :
    Calls Tryz.prog 32 #[.pointer (some ⟨bb, 0, none⟩), .agg #[.int .i64 2, .slice a1 nm.length k1, .string fn, .slice a3 (tlen ts) k3, .slice a4 (blen tb) k4, .slice a5 (tlen tz) k5, .slice a6 (blen eb) k6, .slice a7 (tlen ez) k7], .string pre] w (WrP B bb t (⟨#[108, 101, 116]⟩ ++ namesX nm ++ ⟨#[32, 61, 32]⟩ ++ fn ++ rowsX ts ++ ⟨#[10]⟩) w) := by
  have hlt := hBd.lt
  have hle : B ≤ w.heap.size := Nat.le_trans hBd.le (Nat.le_of_lt hlt)
  have RT : Hid _ := hT
  have RN : Hid _ := hN
  generalize rowsX ts = rx at RT hz ⊢
  generalize namesX nm = nx at RN hz ⊢
  generalize nm.length = nl at RN ⊢
  have ee : (⟨#[108, 101, 116]⟩ : ByteArray).size = 3 := rfl
  have eg : (⟨#[32, 61, 32]⟩ : ByteArray).size = 3 := rfl
  have ef : (⟨#[10]⟩ : ByteArray).size = 1 := rfl
  have HW : Hid (∀ w', Bd B bb t w' → Calls Tryz.prog 15 #[.pointer (some ⟨bb, 0, none⟩), .string (⟨#[108, 101, 116]⟩ ++ nx ++ ⟨#[32, 61, 32]⟩ ++ fn ++ rx ++ ⟨#[10]⟩)] w' fun e w'' => e = .returned (.tuple #[.int .i64 (⟨#[108, 101, 116]⟩ ++ nx ++ ⟨#[32, 61, 32]⟩ ++ fn ++ rx ++ ⟨#[10]⟩).size, .nilIface]) ∧ Bd B bb (t ++ (⟨#[108, 101, 116]⟩ ++ nx ++ ⟨#[32, 61, 32]⟩ ++ fn ++ rx ++ ⟨#[10]⟩)) w'' ∧ Fx B bb w' w'') := fun w' h => write_any B bb t _ w' h (by omega)
  simp only [ByteArray.size_append] at hz
  have n1 : ¬ 9223372036854775807 < 3 + nx.size := by omega
  have n2 : ¬ 9223372036854775807 < 3 + nx.size + 3 := by omega
  have n3 : ¬ 9223372036854775807 < 3 + nx.size + 3 + fn.size := by omega
  have n4 : ¬ 9223372036854775807 < 3 + nx.size + 3 + fn.size + rx.size := by omega
  have n5 : ¬ 9223372036854775807 < 3 + nx.size + 3 + fn.size + rx.size + 1 := by omega
  have N : Hid (Ex w (w.alloc (.cells #[.int .i64 2, .slice a1 nl k1, .string fn, .slice a3 (tlen ts) k3, .slice a4 (blen tb) k4, .slice a5 (tlen tz) k5, .slice a6 (blen eb) k6, .slice a7 (tlen ez) k7] 66))) := Ex.new _ _
  have FN : Hid (∀ w', Fx B bb (w.alloc (.cells #[.int .i64 2, .slice a1 nl k1, .string fn, .slice a3 (tlen ts) k3, .slice a4 (blen tb) k4, .slice a5 (tlen tz) k5, .slice a6 (blen eb) k6, .slice a7 (tlen ez) k7] 66)) w' → Fx B bb w w') := fun w' h => (Fx.of_ex hle (Ex.new _ _)).trans h
  have BX : Hid (∀ w', Fx B bb (w.alloc (.cells #[.int .i64 2, .slice a1 nl k1, .string fn, .slice a3 (tlen ts) k3, .slice a4 (blen tb) k4, .slice a5 (tlen tz) k5, .slice a6 (blen eb) k6, .slice a7 (tlen ez) k7] 66)) w' → w'.heap[w.heap.size]? = some (.cells #[.int .i64 2, .slice a1 nl k1, .string fn, .slice a3 (tlen ts) k3, .slice a4 (blen tb) k4, .slice a5 (tlen tz) k5, .slice a6 (blen eb) k6, .slice a7 (tlen ez) k7] 66 (0, 0))) := fun w' h => box_fx h hlt (by decide)
  have HB1 : Hid (B ≤ (w.alloc (.cells #[.int .i64 2, .slice a1 nl k1, .string fn, .slice a3 (tlen ts) k3, .slice a4 (blen tb) k4, .slice a5 (tlen tz) k5, .slice a6 (blen eb) k6, .slice a7 (tlen ez) k7] 66)).heap.size) := by show _ ≤ _; rw [World.size_alloc]; omega
  have BD0 : Hid (Bd B bb t (w.alloc (.cells #[.int .i64 2, .slice a1 nl k1, .string fn, .slice a3 (tlen ts) k3, .slice a4 (blen tb) k4, .slice a5 (tlen tz) k5, .slice a6 (blen eb) k6, .slice a7 (tlen ez) k7] 66))) := hBd.ex (Ex.new _ _)
  have KX : Hid (∀ w', Fx B bb (w.alloc (.cells #[.int .i64 2, .slice a1 nl k1, .string fn, .slice a3 (tlen ts) k3, .slice a4 (blen tb) k4, .slice a5 (tlen tz) k5, .slice a6 (blen eb) k6, .slice a7 (tlen ez) k7] 66)) w' → (Fx B bb (w.alloc (.cells #[.int .i64 2, .slice a1 nl k1, .string fn, .slice a3 (tlen ts) k3, .slice a4 (blen tb) k4, .slice a5 (tlen tz) k5, .slice a6 (blen eb) k6, .slice a7 (tlen ez) k7] 66)) w' ∧ w'.cell? ⟨w.heap.size, 0, none⟩ = some (.int .i64 2) ∧ w'.cell? ⟨w.heap.size, 1, none⟩ = some (.slice a1 nl k1) ∧ w'.cell? ⟨w.heap.size, 2, none⟩ = some (.string fn) ∧ w'.cell? ⟨w.heap.size, 3, none⟩ = some (.slice a3 (tlen ts) k3) ∧ w'.cell? ⟨w.heap.size, 4, none⟩ = some (.slice a4 (blen tb) k4) ∧ w'.cell? ⟨w.heap.size, 5, none⟩ = some (.slice a5 (tlen tz) k5) ∧ w'.cell? ⟨w.heap.size, 6, none⟩ = some (.slice a6 (blen eb) k6) ∧ w'.cell? ⟨w.heap.size, 7, none⟩ = some (.slice a7 (tlen ez) k7))) := fun w' h => ⟨h, blk_cell (BX.out _ h) 0, blk_cell (BX.out _ h) 1, blk_cell (BX.out _ h) 2, blk_cell (BX.out _ h) 3, blk_cell (BX.out _ h) 4, blk_cell (BX.out _ h) 5, blk_cell (BX.out _ h) 6, blk_cell (BX.out _ h) 7⟩
  clear hBd hz hT hN ee ef eg
  go_enter Tryz.func32, Tryz.ntmps32
  go_wp2_with fail
  go_region_held3 (fun w' => Fx B bb (w.alloc (.cells #[.int .i64 2, .slice a1 nl k1, .string fn, .slice a3 (tlen ts) k3, .slice a4 (blen tb) k4, .slice a5 (tlen tz) k5, .slice a6 (blen eb) k6, .slice a7 (tlen ez) k7] 66)) w' ∧ w'.cell? ⟨w.heap.size, 0, none⟩ = some (.int .i64 2) ∧ w'.cell? ⟨w.heap.size, 1, none⟩ = some (.slice a1 nl k1) ∧ w'.cell? ⟨w.heap.size, 2, none⟩ = some (.string fn) ∧ w'.cell? ⟨w.heap.size, 3, none⟩ = some (.slice a3 (tlen ts) k3) ∧ w'.cell? ⟨w.heap.size, 4, none⟩ = some (.slice a4 (blen tb) k4) ∧ w'.cell? ⟨w.heap.size, 5, none⟩ = some (.slice a5 (tlen tz) k5) ∧ w'.cell? ⟨w.heap.size, 6, none⟩ = some (.slice a6 (blen eb) k6) ∧ w'.cell? ⟨w.heap.size, 7, none⟩ = some (.slice a7 (tlen ez) k7)) ((refine KX.out _ ?_; first | exact (Fx.refl _ _ _).drew | exact Fx.ex (And.left ‹Fx _ _ _ _ ∧ _›) HB1.out ‹Ex _ _› | exact Fx.trans (And.left ‹Fx _ _ _ _ ∧ _›) ‹Fx _ _ _ _›)) (first | (go_at_call 16; refine (RN.out _ (FN.out _ (And.left ‹Fx _ _ _ _ ∧ _›))).mono ?_; rintro e w1 ⟨rfl, hb1⟩; have hbd0 := Bd.ex BD0.out.drew hb1) | (go_at_call 33; refine (RT.out _ (FN.out _ (And.left ‹Fx _ _ _ _ ∧ _›))).mono ?_; rintro e w2 ⟨rfl, hb2⟩; have hbd := Bd.ex hbd0 hb2) | (go_at_call 15; refine (HW.out _ hbd).mono ?_; rintro e w2 ⟨rfl, hbd2, hfx2⟩))
  go_wp2_with fail
  go_end0
  exact ⟨rfl, hbd2, FN.out _ (And.left ‹Fx _ _ _ _ ∧ _›)⟩

set_option maxRecDepth 100000 in
set_option maxHeartbeats 4000000 in
theorem bind_if (B bb : Nat) (pre t : ByteArray) (nm : List ByteArray) (a1 : Option Addr) (k1 : Nat) (fn : ByteArray) (ts : TM) (a3 : Option Addr) (k3 : Nat) (tb : BD) (a4 : Option Addr) (k4 : Nat) (tz : TM) (a5 : Option Addr) (k5 : Nat) (eb : BD) (a6 : Option Addr) (k6 : Nat) (ez : TM) (a7 : Option Addr) (k7 : Nat) (w : World) (y1 y2 : ByteArray) (hBd : Bd B bb t w) (hz : t.size + (⟨#[105, 102]⟩ ++ rowsX ts ++ ⟨#[10]⟩ ++ y1 ++ pre ++ ⟨#[101, 108, 115, 101, 10]⟩ ++ y2 ++ pre ++ ⟨#[102, 111, 114]⟩ ++ namesX nm ++ ⟨#[10]⟩).size ≤ 1000000000)
    (hT : ∀ w', Fx B bb w w' → Calls Tryz.prog 33 #[.slice a3 (tlen ts) k3] w' fun e w'' => e = .returned (.string (rowsX ts)) ∧ Ex w' w'') (hN : ∀ w', Fx B bb w w' → Calls Tryz.prog 16 #[.slice a1 nm.length k1] w' fun e w'' => e = .returned (.string (namesX nm)) ∧ Ex w' w'')
    (hY : ∀ t' w', Fx B bb w w' → Bd B bb t' w' → t'.size + y1.size ≤ 1000000000 → Calls Tryz.prog 17 #[.pointer (some ⟨bb, 0, none⟩), .agg #[.slice a4 (blen tb) k4, .slice a5 (tlen tz) k5], .string (pre ++ ⟨#[32]⟩)] w' (WrP B bb t' y1 w'))
    (hE : ∀ t' w', Fx B bb w w' → Bd B bb t' w' → t'.size + y2.size ≤ 1000000000 → Calls Tryz.prog 17 #[.pointer (some ⟨bb, 0, none⟩), .agg #[.slice a6 (blen eb) k6, .slice a7 (tlen ez) k7], .string (pre ++ ⟨#[32]⟩)] w' (WrP B bb t' y2 w')) :
    Calls Tryz.prog 32 #[.pointer (some ⟨bb, 0, none⟩), .agg #[.int .i64 3, .slice a1 nm.length k1, .string fn, .slice a3 (tlen ts) k3, .slice a4 (blen tb) k4, .slice a5 (tlen tz) k5, .slice a6 (blen eb) k6, .slice a7 (tlen ez) k7], .string pre] w (WrP B bb t (⟨#[105, 102]⟩ ++ rowsX ts ++ ⟨#[10]⟩ ++ y1 ++ pre ++ ⟨#[101, 108, 115, 101, 10]⟩ ++ y2 ++ pre ++ ⟨#[102, 111, 114]⟩ ++ namesX nm ++ ⟨#[10]⟩) w) := by
  have hlt := hBd.lt
  have hle : B ≤ w.heap.size := Nat.le_trans hBd.le (Nat.le_of_lt hlt)
  have RT : Hid _ := hT
  have RN : Hid _ := hN
  have RY : Hid _ := hY
  have RE : Hid _ := hE
  generalize rowsX ts = rx at RT hz ⊢
  generalize namesX nm = nx at RN hz ⊢
  generalize nm.length = nl at RN ⊢
  have ee : (⟨#[105, 102]⟩ : ByteArray).size = 2 := rfl
  have eg : (⟨#[101, 108, 115, 101, 10]⟩ : ByteArray).size = 5 := rfl
  have eh : (⟨#[102, 111, 114]⟩ : ByteArray).size = 3 := rfl
  have ef : (⟨#[10]⟩ : ByteArray).size = 1 := rfl
  have HZ : Hid _ := hz
  simp only [ByteArray.size_append] at hz
  have n1 : ¬ 9223372036854775807 < 2 + rx.size := by omega
  have n2 : ¬ 9223372036854775807 < 2 + rx.size + 1 := by omega
  have n3 : ¬ 9223372036854775807 < pre.size + 1 := by omega
  have n4 : ¬ 9223372036854775807 < pre.size + 5 := by omega
  have n5 : ¬ 9223372036854775807 < pre.size + 3 := by omega
  have n6 : ¬ 9223372036854775807 < pre.size + 3 + nx.size := by omega
  have n7 : ¬ 9223372036854775807 < pre.size + 3 + nx.size + 1 := by omega
  have N : Hid (Ex w (w.alloc (.cells #[.int .i64 3, .slice a1 nl k1, .string fn, .slice a3 (tlen ts) k3, .slice a4 (blen tb) k4, .slice a5 (tlen tz) k5, .slice a6 (blen eb) k6, .slice a7 (tlen ez) k7] 66))) := Ex.new _ _
  have FN : Hid (∀ w', Fx B bb (w.alloc (.cells #[.int .i64 3, .slice a1 nl k1, .string fn, .slice a3 (tlen ts) k3, .slice a4 (blen tb) k4, .slice a5 (tlen tz) k5, .slice a6 (blen eb) k6, .slice a7 (tlen ez) k7] 66)) w' → Fx B bb w w') := fun w' h => (Fx.of_ex hle (Ex.new _ _)).trans h
  have BX : Hid (∀ w', Fx B bb (w.alloc (.cells #[.int .i64 3, .slice a1 nl k1, .string fn, .slice a3 (tlen ts) k3, .slice a4 (blen tb) k4, .slice a5 (tlen tz) k5, .slice a6 (blen eb) k6, .slice a7 (tlen ez) k7] 66)) w' → w'.heap[w.heap.size]? = some (.cells #[.int .i64 3, .slice a1 nl k1, .string fn, .slice a3 (tlen ts) k3, .slice a4 (blen tb) k4, .slice a5 (tlen tz) k5, .slice a6 (blen eb) k6, .slice a7 (tlen ez) k7] 66 (0, 0))) := fun w' h => box_fx h hlt (by decide)
  have HB1 : Hid (B ≤ (w.alloc (.cells #[.int .i64 3, .slice a1 nl k1, .string fn, .slice a3 (tlen ts) k3, .slice a4 (blen tb) k4, .slice a5 (tlen tz) k5, .slice a6 (blen eb) k6, .slice a7 (tlen ez) k7] 66)).heap.size) := by show _ ≤ _; rw [World.size_alloc]; omega
  have BD0 : Hid (Bd B bb t (w.alloc (.cells #[.int .i64 3, .slice a1 nl k1, .string fn, .slice a3 (tlen ts) k3, .slice a4 (blen tb) k4, .slice a5 (tlen tz) k5, .slice a6 (blen eb) k6, .slice a7 (tlen ez) k7] 66))) := hBd.ex (Ex.new _ _)
  have KX : Hid (∀ w', Fx B bb (w.alloc (.cells #[.int .i64 3, .slice a1 nl k1, .string fn, .slice a3 (tlen ts) k3, .slice a4 (blen tb) k4, .slice a5 (tlen tz) k5, .slice a6 (blen eb) k6, .slice a7 (tlen ez) k7] 66)) w' → w'.cell? ⟨w.heap.size, 0, none⟩ = some (.int .i64 3) ∧ w'.cell? ⟨w.heap.size, 1, none⟩ = some (.slice a1 nl k1) ∧ w'.cell? ⟨w.heap.size, 2, none⟩ = some (.string fn) ∧ w'.cell? ⟨w.heap.size, 3, none⟩ = some (.slice a3 (tlen ts) k3) ∧ w'.cell? ⟨w.heap.size, 4, none⟩ = some (.slice a4 (blen tb) k4) ∧ w'.cell? ⟨w.heap.size, 5, none⟩ = some (.slice a5 (tlen tz) k5) ∧ w'.cell? ⟨w.heap.size, 6, none⟩ = some (.slice a6 (blen eb) k6) ∧ w'.cell? ⟨w.heap.size, 7, none⟩ = some (.slice a7 (tlen ez) k7)) := fun w' h => ⟨blk_cell (BX.out _ h) 0, blk_cell (BX.out _ h) 1, blk_cell (BX.out _ h) 2, blk_cell (BX.out _ h) 3, blk_cell (BX.out _ h) 4, blk_cell (BX.out _ h) 5, blk_cell (BX.out _ h) 6, blk_cell (BX.out _ h) 7⟩
  have hW : ∀ t' s w', Bd B bb t' w' → t'.size + s.size ≤ 1000000000 → Calls Tryz.prog 15 #[.pointer (some ⟨bb, 0, none⟩), .string s] w' fun e w'' => e = .returned (.tuple #[.int .i64 s.size, .nilIface]) ∧ Bd B bb (t' ++ s) w'' ∧ Fx B bb w' w'' := fun t' s w' h hs => write_any B bb t' s w' h (by omega)
  have HW : Hid _ := hW
  have Z1 : Hid (t.size + (⟨#[105, 102]⟩ ++ rx ++ ⟨#[10]⟩ : ByteArray).size ≤ 1000000000) := by show _ ≤ _; simp only [ByteArray.size_append]; omega
  have Z2 : Hid ((t ++ (⟨#[105, 102]⟩ ++ rx ++ ⟨#[10]⟩)).size + y1.size ≤ 1000000000) := by show _ ≤ _; simp only [ByteArray.size_append]; omega
  have Z3 : Hid ((t ++ (⟨#[105, 102]⟩ ++ rx ++ ⟨#[10]⟩) ++ y1).size + (pre ++ ⟨#[101, 108, 115, 101, 10]⟩).size ≤ 1000000000) := by show _ ≤ _; simp only [ByteArray.size_append]; omega
  have Z4 : Hid ((t ++ (⟨#[105, 102]⟩ ++ rx ++ ⟨#[10]⟩) ++ y1 ++ (pre ++ ⟨#[101, 108, 115, 101, 10]⟩)).size + y2.size ≤ 1000000000) := by show _ ≤ _; simp only [ByteArray.size_append]; omega
  have Z5 : Hid ((t ++ (⟨#[105, 102]⟩ ++ rx ++ ⟨#[10]⟩) ++ y1 ++ (pre ++ ⟨#[101, 108, 115, 101, 10]⟩) ++ y2).size + (pre ++ ⟨#[102, 111, 114]⟩ ++ nx ++ ⟨#[10]⟩).size ≤ 1000000000) := by show _ ≤ _; simp only [ByteArray.size_append]; omega
  have FIN : Hid (t ++ (⟨#[105, 102]⟩ ++ rx ++ ⟨#[10]⟩) ++ y1 ++ (pre ++ ⟨#[101, 108, 115, 101, 10]⟩) ++ y2 ++ (pre ++ ⟨#[102, 111, 114]⟩ ++ nx ++ ⟨#[10]⟩) = t ++ (⟨#[105, 102]⟩ ++ rx ++ ⟨#[10]⟩ ++ y1 ++ pre ++ ⟨#[101, 108, 115, 101, 10]⟩ ++ y2 ++ pre ++ ⟨#[102, 111, 114]⟩ ++ nx ++ ⟨#[10]⟩)) := by show _ = _; simp only [cat3]
  clear hBd hz hT hN hY hE ee ef eg eh hW HZ
  obtain ⟨c0, c1, c2, c3, c4, c5, c6, c7⟩ := KX.out _ (Fx.refl _ _ _)
  go_enter Tryz.func32, Tryz.ntmps32
  go_wp2_with fail
  refine Calls.mono (RT.out _ (FN.out _ (Fx.refl _ _ _))) ?_
  rintro e w1 ⟨rfl, hb1⟩
  have B1 : Hid (Bd B bb t w1) := BD0.out.ex hb1
  have F1 : Hid (Fx B bb (w.alloc (.cells #[.int .i64 3, .slice a1 nl k1, .string fn, .slice a3 (tlen ts) k3, .slice a4 (blen tb) k4, .slice a5 (tlen tz) k5, .slice a6 (blen eb) k6, .slice a7 (tlen ez) k7] 66)) w1) := Fx.of_ex HB1.out hb1
  clear hb1 c0 c1 c2 c3 c4 c5 c6 c7
  obtain ⟨c0, c1, c2, c3, c4, c5, c6, c7⟩ := KX.out _ F1.out
  go_wp2_with fail
  refine Calls.mono (HW.out _ _ _ B1.out Z1.out) ?_
  rintro e w2 ⟨rfl, hbd, hfx⟩
  have B2 : Hid _ := hbd
  have F2 : Hid (Fx B bb (w.alloc (.cells #[.int .i64 3, .slice a1 nl k1, .string fn, .slice a3 (tlen ts) k3, .slice a4 (blen tb) k4, .slice a5 (tlen tz) k5, .slice a6 (blen eb) k6, .slice a7 (tlen ez) k7] 66)) w2) := F1.out.trans hfx
  clear hbd hfx c0 c1 c2 c3 c4 c5 c6 c7
  obtain ⟨c0, c1, c2, c3, c4, c5, c6, c7⟩ := KX.out _ F2.out
  go_wp2_with fail
  refine Calls.mono (RY.out _ _ (FN.out _ F2.out) B2.out Z2.out) ?_
  rintro e w3 ⟨rfl, hbd, hfx⟩
  have B3 : Hid _ := hbd
  have F3 : Hid (Fx B bb (w.alloc (.cells #[.int .i64 3, .slice a1 nl k1, .string fn, .slice a3 (tlen ts) k3, .slice a4 (blen tb) k4, .slice a5 (tlen tz) k5, .slice a6 (blen eb) k6, .slice a7 (tlen ez) k7] 66)) w3) := F2.out.trans hfx
  clear hbd hfx c0 c1 c2 c3 c4 c5 c6 c7
  obtain ⟨c0, c1, c2, c3, c4, c5, c6, c7⟩ := KX.out _ F3.out
  go_wp2_with fail
  refine Calls.mono (HW.out _ _ _ B3.out Z3.out) ?_
  rintro e w4 ⟨rfl, hbd, hfx⟩
  have B4 : Hid _ := hbd
  have F4 : Hid (Fx B bb (w.alloc (.cells #[.int .i64 3, .slice a1 nl k1, .string fn, .slice a3 (tlen ts) k3, .slice a4 (blen tb) k4, .slice a5 (tlen tz) k5, .slice a6 (blen eb) k6, .slice a7 (tlen ez) k7] 66)) w4) := F3.out.trans hfx
  clear hbd hfx c0 c1 c2 c3 c4 c5 c6 c7
  obtain ⟨c0, c1, c2, c3, c4, c5, c6, c7⟩ := KX.out _ F4.out
  go_wp2_with fail
  refine Calls.mono (RE.out _ _ (FN.out _ F4.out) B4.out Z4.out) ?_
  rintro e w5 ⟨rfl, hbd, hfx⟩
  have B5 : Hid _ := hbd
  have F5 : Hid (Fx B bb (w.alloc (.cells #[.int .i64 3, .slice a1 nl k1, .string fn, .slice a3 (tlen ts) k3, .slice a4 (blen tb) k4, .slice a5 (tlen tz) k5, .slice a6 (blen eb) k6, .slice a7 (tlen ez) k7] 66)) w5) := F4.out.trans hfx
  clear hbd hfx c0 c1 c2 c3 c4 c5 c6 c7
  obtain ⟨c0, c1, c2, c3, c4, c5, c6, c7⟩ := KX.out _ F5.out
  go_wp2_with fail
  refine Calls.mono (RN.out _ (FN.out _ F5.out)) ?_
  rintro e w6 ⟨rfl, hb6⟩
  have B6 : Hid _ := Bd.ex B5.out hb6
  have F6 : Hid (Fx B bb (w.alloc (.cells #[.int .i64 3, .slice a1 nl k1, .string fn, .slice a3 (tlen ts) k3, .slice a4 (blen tb) k4, .slice a5 (tlen tz) k5, .slice a6 (blen eb) k6, .slice a7 (tlen ez) k7] 66)) w6) := F5.out.ex HB1.out hb6
  clear hb6 c0 c1 c2 c3 c4 c5 c6 c7
  obtain ⟨c0, c1, c2, c3, c4, c5, c6, c7⟩ := KX.out _ F6.out
  go_wp2_with fail
  refine Calls.mono (HW.out _ _ _ B6.out Z5.out) ?_
  rintro e w7 ⟨rfl, hbd, hfx⟩
  have B7 : Hid _ := hbd
  have F7 : Hid (Fx B bb (w.alloc (.cells #[.int .i64 3, .slice a1 nl k1, .string fn, .slice a3 (tlen ts) k3, .slice a4 (blen tb) k4, .slice a5 (tlen tz) k5, .slice a6 (blen eb) k6, .slice a7 (tlen ez) k7] 66)) w7) := F6.out.trans hfx
  clear hbd hfx c0 c1 c2 c3 c4 c5 c6 c7
  go_wp2_with fail
  go_end0
  exact ⟨rfl, by rw [← FIN.out]; exact B7.out, FN.out _ F7.out⟩

end Go.Proofs.YtpibamhkmmgooaaGreatDoor
