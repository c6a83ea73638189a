/- The exact law on whether a value is of a type, walked. -/
import Derived.Test.YtfbnenfnjmhhjaaE2
import Derived.Test.YtfbnenfnjmhhjaaE5
import Derived.Test.YtfbnenfnjmhhjaaV5
namespace Go.Proofs.Ytfbnenfnjmhhjaa
open Go.RowKit Go.Deep
attribute [local go_sem ↓] Go.wp_at_zero Go.wp_at_succ

set_option maxRecDepth 100000 in
set_option maxHeartbeats 4000000 in
theorem lawExactValOk (t : F) (a : Option Addr) (c : Nat) (n : Int) (f : F) (av : Option Addr) (cv : Nat) (w : World) (hl : len t ≤ 9223372036854775807) (hlm : Lm t) (hT : TA w 0 t a) (hlf : len f ≤ 9223372036854775807) (hlmf : Lm f) (hV : VA w 0 f av) :
    Calls Try.prog 18 #[.agg #[.slice a (len t) c], .agg #[.int .i64 n, .slice av (len f) cv]] w fun e w' => e = .returned (.bool true) ∧ Ex w w' := by
  have T : Hid (∀ w', Ex w w' → TA w' 0 t a) := fun _ h => TA_below hT h
  have V : Hid (∀ w', Ex w w' → VA w' 0 f av) := fun _ h => VA_below hV h
  clear hT hV
  go_enter Try.func18, Try.ntmps18
  go_wp2_with fail
  refine ((szType_both (dep t + 1)).2 t a c 0 1048576 _ (by omega) hl hlm (by omega) (by omega) (T.out _ ((Ex.new _ _).alloc _))).mono ?_
  rintro e w1 ⟨x, rfl, hx0, hx1, hsm, hb1⟩
  by_cases hx : x < 0
  · go_wp2_with fail
    go_ret
    exact ⟨rfl, ((Ex.new _ _).alloc _).trans hb1⟩
  have SM : Hid (len t ≤ 1048576 ∧ Sm t) := hsm (by omega)
  have B0 : Hid (∀ w', Ex w1 w' → w'.cell? ⟨w.heap.size, 0, none⟩ = some (.slice a (len t) c)) := fun _ h => h.at (hb1.at (by simp))
  have B1 : Hid (∀ w', Ex w1 w' → w'.cell? ⟨w.heap.size + 1, 0, none⟩ = some (.int .i64 n)) := fun _ h => h.at (hb1.at (by simp))
  have B2 : Hid (∀ w', Ex w1 w' → w'.cell? ⟨w.heap.size + 1, 1, none⟩ = some (.slice av (len f) cv)) := fun _ h => h.at (hb1.at (by simp))
  have X1 : Hid (Ex w w1) := ((Ex.new _ _).alloc _).trans hb1
  have q1 := B1.out w1 (Ex.refl _)
  have q2 := B2.out w1 (Ex.refl _)
  clear hsm hb1
  go_wp2_with fail
  refine ((szVal_both (dep f + 1)).2 n f av cv 0 x _ (by omega) hlf hlmf (by omega) (by omega) (V.out _ X1.out)).mono ?_
  rintro e w2 ⟨y, rfl, hy0, hy1, hsm, hb2⟩
  by_cases hy : y < 0
  · go_wp2_with fail
    go_ret
    exact ⟨rfl, X1.out.trans hb2⟩
  have SF : Hid (len f ≤ 1048576 ∧ Sm f) := hsm (by omega)
  have X2 : Hid (Ex w1 w2) := hb2
  have Y2 : Hid (Ex w w2) := X1.out.trans hb2
  have hto : Hid (∀ w', Ex w2 w' → Calls Try.prog 42 #[.agg #[.slice a (len t) c]] w' fun e w'' => ∃ a' c', e = .returned (.agg #[.slice a' (len t) c']) ∧ TA w'' w'.heap.size t a' ∧ Ex w' w'') := fun w' h =>
    (toType_both (dep t + 1)).2 t a c 0 w' (by omega) (by have := SM.out; omega) SM.out.2 (T.out _ (Y2.out.trans h))
  have htv : Hid (∀ w', Ex w2 w' → Calls Try.prog 50 #[.agg #[.int .i64 n, .slice av (len f) cv]] w' fun e w'' => ∃ a' c', e = .returned (.agg #[.int .i64 n, .slice a' (len f) c']) ∧ VA w'' w'.heap.size f a' ∧ Ex w' w'') := fun w' h =>
    (toVal_both (dep f + 1)).2 n f av cv 0 w' (by omega) (by have := SF.out; omega) SF.out.2 (V.out _ (Y2.out.trans h))
  have sok : Hid (∀ w' a' c' a'' c'' lo lo', VA w' lo f a'' → TA w' lo' t a' → Calls Try.prog 33 #[.agg #[.slice a' (len t) c'], .agg #[.int .i64 n, .slice a'' (len f) c'']] w' fun e w'' => e = .returned (.bool (valOk t n f)) ∧ Ex w' w'') := fun w' a' c' a'' c'' lo lo' h h' => sValOk_any t n f a'' a' c'' c' lo lo' w' (by have := SF.out; omega) SF.out.2 h h'
  have iok : Hid (∀ w' a' c' a'' c'' lo lo', VA w' lo f a'' → TA w' lo' t a' → Calls Try.prog 32 #[.agg #[.slice a' (len t) c'], .agg #[.int .i64 n, .slice a'' (len f) c'']] w' fun e w'' => e = .returned (.bool (valOk t n f)) ∧ Ex w' w'') := fun w' a' c' a'' c'' lo lo' h h' => iValOk_any t n f a'' a' c'' c' lo lo' w' h h'
  generalize valOk t n f = ok at *
  have KS : Hid (∀ w', Ex w2 w' → (Ex w2 w' ∧ w'.cell? ⟨w.heap.size, 0, none⟩ = some (.slice a (len t) c) ∧ w'.cell? ⟨w.heap.size + 1, 0, none⟩ = some (.int .i64 n) ∧ w'.cell? ⟨w.heap.size + 1, 1, none⟩ = some (.slice av (len f) cv))) := fun w' h => ⟨h, B0.out w' (X2.out.trans h), B1.out w' (X2.out.trans h), B2.out w' (X2.out.trans h)⟩
  clear hsm hb2 q1 q2 hl hlm hlf hlmf
  go_wp2_with fail
  go_region_held3 (fun w' => Ex w2 w' ∧ w'.cell? ⟨w.heap.size, 0, none⟩ = some (.slice a (len t) c) ∧ w'.cell? ⟨w.heap.size + 1, 0, none⟩ = some (.int .i64 n) ∧ w'.cell? ⟨w.heap.size + 1, 1, none⟩ = some (.slice av (len f) cv)) ((refine KS.out _ ?_; first | exact (Ex.refl _).drew | exact Ex.trans (And.left ‹Ex _ _ ∧ _›) ‹Ex _ _›)) (first | (go_at_call 42; refine (hto.out _ (And.left ‹Ex _ _ ∧ _›)).mono ?_; rintro e w3 ⟨a3, c3, rfl, ht3, hb3⟩) | (go_at_call 50; refine (htv.out _ (And.left ‹Ex _ _ ∧ _›)).mono ?_; rintro e w4 ⟨a4, c4, rfl, hv4, hb4⟩) | (go_at_call 33; refine (sok.out _ _ _ _ _ _ _ hv4 (TA_below ht3 hb4)).mono ?_; rintro e w7 ⟨rfl, hb7⟩))
  have H7 : Hid (Ex w2 w7) := And.left ‹Ex _ w7 ∧ _›
  have q0 := B0.out w7 (X2.out.trans H7.out)
  go_wp2_with fail
  refine (hto.out _ H7.out).mono ?_
  rintro e w5 ⟨a5, c5, rfl, ht5, hb5⟩
  have H5 : Hid (Ex w2 w5) := H7.out.trans hb5
  have T5 : Hid (TA w5 w7.heap.size t a5) := ht5
  have q1 := B1.out w5 (X2.out.trans H5.out)
  have q2 := B2.out w5 (X2.out.trans H5.out)
  have z5 : w.heap.size + 1 < w5.heap.size := World.block_lt_of_cell? _ _ q1
  clear ht5 hb5 q0
  go_wp2_with fail
  refine (htv.out _ (H5.out.alloc _)).mono ?_
  rintro e w6 ⟨a6, c6, rfl, hv6, hb6⟩
  have C7 : Hid (∀ w', Ex w6 w' → w'.cell? ⟨w5.heap.size, 0, none⟩ = some (.slice a5 (len t) c5)) := fun _ h => h.at (hb6.at (World.cell?_alloc_new _ _ _ _))
  have H6 : Hid (Ex w2 w6) := (H5.out.alloc _).trans hb6
  have T6 : Hid (∀ w', Ex w6 w' → TA w' 0 t a5) := fun w' h => TA_below (TA_lo T5.out (Nat.zero_le _)) ((Ex.new _ _).trans (hb6.trans h))
  have V6 : Hid (∀ w', Ex w6 w' → VA w' 0 f a6) := fun w' h => VA_below (VA_lo hv6 (Nat.zero_le _)) h
  have q7 := C7.out w6 (Ex.refl _)
  have z6 : w5.heap.size < w6.heap.size := World.block_lt_of_cell? _ _ q7
  clear hv6 hb6 q1 q2 z5
  go_wp2_with fail
  refine (iok.out _ a5 c5 a6 c6 0 0 (V6.out _ (Ex.new _ _)) (T6.out _ (Ex.new _ _))).mono ?_
  rintro e w8 ⟨rfl, hb8⟩
  have H8 : Hid (Ex (w6.alloc (.cells #[.int .i64 n, .slice a6 (len f) c6] 39)) w8) := hb8
  have K2 : Hid (∀ w', Ex (w6.alloc (.cells #[.int .i64 n, .slice a6 (len f) c6] 39)) w' → Ex w2 w') := fun w' h => (H6.out.alloc _).trans h
  have KB : Hid (∀ w', Ex (w6.alloc (.cells #[.int .i64 n, .slice a6 (len f) c6] 39)) w' → (Ex (w6.alloc (.cells #[.int .i64 n, .slice a6 (len f) c6] 39)) w' ∧ w'.cell? ⟨w.heap.size, 0, none⟩ = some (.slice a (len t) c) ∧ w'.cell? ⟨w5.heap.size, 0, none⟩ = some (.slice a5 (len t) c5))) := fun w' h => ⟨h, B0.out w' (X2.out.trans (K2.out _ h)), C7.out w' ((Ex.new _ _).trans h)⟩
  have KC : Hid (∀ w', Ex (w6.alloc (.cells #[.int .i64 n, .slice a6 (len f) c6] 39)) w' → (Ex (w6.alloc (.cells #[.int .i64 n, .slice a6 (len f) c6] 39)) w' ∧ w'.cell? ⟨w.heap.size + 1, 0, none⟩ = some (.int .i64 n) ∧ w'.cell? ⟨w.heap.size + 1, 1, none⟩ = some (.slice av (len f) cv) ∧ w'.cell? ⟨w6.heap.size, 0, none⟩ = some (.int .i64 n) ∧ w'.cell? ⟨w6.heap.size, 1, none⟩ = some (.slice a6 (len f) c6))) := fun w' h => ⟨h, B1.out w' (X2.out.trans (K2.out _ h)), B2.out w' (X2.out.trans (K2.out _ h)), h.at (World.cell?_alloc_new _ _ _ _), h.at (World.cell?_alloc_new _ _ _ _)⟩
  have EF : Hid (∀ w' a' c' lo', Ex (w6.alloc (.cells #[.int .i64 n, .slice a6 (len f) c6] 39)) w' → TA w' lo' t a' → Calls Try.prog 43 #[.agg #[.slice a5 (len t) c5], .agg #[.slice a' (len t) c']] w' fun e w'' => e = .returned (.bool true) ∧ Ex w' w'') := fun w' a' c' lo' h h' => by
    have := (eqType_both (dep t + 1)).2 t t a5 a' c5 c' 0 lo' w' (by omega) (by have := SM.out; omega) SM.out.2 (T6.out _ ((Ex.new _ _).trans h)) h'
    rw [eqT_refl] at this; exact this
  have EV : Hid (∀ w' a' c' lo', Ex (w6.alloc (.cells #[.int .i64 n, .slice a6 (len f) c6] 39)) w' → VA w' lo' f a' → Calls Try.prog 51 #[.agg #[.int .i64 n, .slice a6 (len f) c6], .agg #[.int .i64 n, .slice a' (len f) c']] w' fun e w'' => e = .returned (.bool true) ∧ Ex w' w'') := fun w' a' c' lo' h h' => by
    have := (eqVal_both (dep f + 1)).2 n n f f a6 a' c6 c' 0 lo' w' (by omega) (by have := SF.out; omega) SF.out.2 (V6.out _ ((Ex.new _ _).trans h)) h'
    rw [eqV_refl] at this; simpa using this
  clear hb8 q7
  go_wp2_with fail
  go_region_held3 (fun w' => Ex (w6.alloc (.cells #[.int .i64 n, .slice a6 (len f) c6] 39)) w' ∧ w'.cell? ⟨w.heap.size, 0, none⟩ = some (.slice a (len t) c) ∧ w'.cell? ⟨w5.heap.size, 0, none⟩ = some (.slice a5 (len t) c5)) ((refine KB.out _ ?_; first | exact H8.out.drew | exact Ex.trans (And.left ‹Ex _ _ ∧ _›) ‹Ex _ _›)) (first | (go_at_call 42; refine (hto.out _ (K2.out _ (And.left ‹Ex _ _ ∧ _›))).mono ?_; rintro e w9 ⟨a9, c9, rfl, ht9, hb9⟩) | (go_at_call 43; refine (EF.out _ _ _ _ (And.left ‹Ex _ _ ∧ _›) ht9).mono ?_; rintro e w10 ⟨rfl, hb10⟩))
  have H10 : Hid (Ex (w6.alloc (.cells #[.int .i64 n, .slice a6 (len f) c6] 39)) w10) := And.left ‹Ex _ w10 ∧ _›
  go_wp2_with fail
  go_region_held3 (fun w' => Ex (w6.alloc (.cells #[.int .i64 n, .slice a6 (len f) c6] 39)) w' ∧ w'.cell? ⟨w.heap.size + 1, 0, none⟩ = some (.int .i64 n) ∧ w'.cell? ⟨w.heap.size + 1, 1, none⟩ = some (.slice av (len f) cv) ∧ w'.cell? ⟨w6.heap.size, 0, none⟩ = some (.int .i64 n) ∧ w'.cell? ⟨w6.heap.size, 1, none⟩ = some (.slice a6 (len f) c6)) ((refine KC.out _ ?_; first | exact H10.out.drew | exact Ex.trans (And.left ‹Ex _ _ ∧ _›) ‹Ex _ _›)) (first | (go_at_call 50; refine (htv.out _ (K2.out _ (And.left ‹Ex _ _ ∧ _›))).mono ?_; rintro e w11 ⟨a11, c11, rfl, hv11, hb11⟩) | (go_at_call 51; refine (EV.out _ _ _ _ (And.left ‹Ex _ _ ∧ _›) hv11).mono ?_; rintro e w12 ⟨rfl, hb12⟩))
  have H12 : Hid (Ex (w6.alloc (.cells #[.int .i64 n, .slice a6 (len f) c6] 39)) w12) := And.left ‹Ex _ w12 ∧ _›
  go_wp2_with fail
  go_ret
  exact ⟨rfl, Y2.out.trans (K2.out _ H12.out)⟩

end Go.Proofs.Ytfbnenfnjmhhjaa
