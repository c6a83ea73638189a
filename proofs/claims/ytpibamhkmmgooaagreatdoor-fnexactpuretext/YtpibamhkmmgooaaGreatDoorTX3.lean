/- Walks: the specification's text of a term. -/
import Derived.Test.YtpibamhkmmgooaaGreatDoorTX2

import Derived.Deep.RegionHeld3

namespace Go.Proofs.YtpibamhkmmgooaaGreatDoor

open Go.RowKit Go.Deep

attribute [local go_sem ↓] Go.wp_at_zero Go.wp_at_succ

theorem cat_nil (a : ByteArray) : a ++ ⟨#[]⟩ = a := by apply ByteArray.ext; simp
theorem nil_cat (a : ByteArray) : (⟨#[]⟩ : ByteArray) ++ a = a := by apply ByteArray.ext; simp
theorem upX_0 (g : Nat → ByteArray) : upX g 0 = ⟨#[]⟩ := rfl
theorem upX_1 (g : Nat → ByteArray) : upX g 1 = g 0 := by rw [upX, upX, nil_cat]
theorem upX_2 (g : Nat → ByteArray) : upX g 2 = g 0 ++ g 1 := by rw [upX, upX_1]

/-- A sign of two kids. -/
def sgn (k : Nat) : ByteArray := if k = 3 then ⟨#[43]⟩ else if k = 4 then ⟨#[45]⟩ else if k = 5 then ⟨#[60]⟩ else ⟨#[44]⟩
theorem sgn_size (k : Nat) : (sgn k).size = 1 := by unfold sgn; split; rfl; split; rfl; split <;> rfl
theorem wordX_sgn {k : Nat} (h3 : 3 ≤ k) (h6 : k ≤ 6) (n : Int) (s : ByteArray) (p : List Int) : wordX (k : Int) n s p = sgn k := by
  have : k = 3 ∨ k = 4 ∨ k = 5 ∨ k = 6 := by omega
  rcases this with rfl | rfl | rfl | rfl <;> rfl

set_option maxHeartbeats 1000000 in
theorem l2Signs_any (w : World) : Calls Tryz.prog 56 #[] w fun e w' => ∃ g, e = .returned (.slice (some ⟨g, 0, none⟩) 7 7) ∧ (∀ k, 3 ≤ k → k ≤ 6 → w'.cell? ⟨g, k, none⟩ = some (.string (sgn k))) ∧ Ex w w' := by
  go_enter Tryz.func56, Tryz.ntmps56
  go_wp2_with fail
  go_ret
  refine ⟨_, rfl, fun k h3 h6 => ?_, Ex.new _ _⟩
  have : k = 3 ∨ k = 4 ∨ k = 5 ∨ k = 6 := by omega
  rcases this with rfl | rfl | rfl | rfl <;> (rw [World.cell?_alloc_new]; rfl)


set_option maxRecDepth 100000 in
set_option maxHeartbeats 2000000 in
theorem say_leaf (k n : Int) (s : ByteArray) (p : List Int) (pa : Option Addr) (pc : Nat) (f : TM) (a : Option Addr) (c d : Nat) (w : World) (hk : (k = 1 ∧ 0 ≤ n ∧ n ≤ 9999) ∨ k = 2) (hl : tlen f = 0) :
    Calls Tryz.prog 40 #[.agg #[.int .i64 k, .int .i64 n, .string s, .slice pa p.length pc, .slice a (tlen f) c]] w fun e w' => e = .returned (.string (termX (d + 1) k n s p f)) ∧ Ex w w' := by
  have N : Hid (Ex w (w.alloc (.cells #[.int .i64 k, .int .i64 n, .string s, .slice pa p.length pc, .slice a (tlen f) c] 83))) := Ex.new _ _
  rcases hk with ⟨rfl, h0, h1⟩ | rfl
  · have HR : Hid (termX (d + 1) 1 n s p f = dec n) := by show _ = _; rw [termX_at, hl, upX_0, cat_nil]; rfl
    clear hl
    go_enter Tryz.func40, Tryz.ntmps40
    go_wp2_with fail
    refine Calls.mono (l6Dec_at n _ h0 h1) ?_
    rintro e w1 ⟨rfl, hb1⟩
    go_wp2_with fail
    go_ret
    exact ⟨ret_s HR.out.symm, N.out.trans hb1⟩
  · have HR : Hid (termX (d + 1) 2 n s p f = s) := by show _ = _; rw [termX_at, hl, upX_0, cat_nil]; rfl
    clear hl
    go_enter Tryz.func40, Tryz.ntmps40
    go_wp2_with fail
    go_ret
    exact ⟨ret_s HR.out.symm, N.out⟩

set_option maxRecDepth 100000 in
set_option maxHeartbeats 4000000 in
theorem say_at (n : Int) (s : ByteArray) (p : List Int) (pa : Option Addr) (pc : Nat) (f : TM) (a : Option Addr) (c d : Nat) (w : World) (hp : pathB p = true) (hp4 : p.length ≤ 4) (hl : tlen f = 1) (z0 : (kidX d f 0).size ≤ 10000000) (hT : PA w 0 p pa) (hM : MA w 0 f a) (hK : ∀ j, j < tlen f → ∀ (pa' : Option Addr) (pc' : Nat) (a' : Option Addr) (c' : Nat) (w' : World), Ex w w' → PA w' 0 (tpath f j) pa' → MA w' 0 (tkid f j) a' → Calls Tryz.prog 40 #[.agg #[.int .i64 (tkind f j), .int .i64 (tnum f j), .string (tname f j), .slice pa' (tpath f j).length pc', .slice a' (tlen (tkid f j)) c']] w' fun e w'' => e = .returned (.string (kidX d f j)) ∧ Ex w' w'') :
    Calls Tryz.prog 40 #[.agg #[.int .i64 7, .int .i64 n, .string s, .slice pa p.length pc, .slice a (tlen f) c]] w fun e w' => e = .returned (.string (termX (d + 1) 7 n s p f)) ∧ Ex w w' := by
  have IP : Hid (∀ w', Ex w w' → Calls Tryz.prog 55 #[.slice pa p.length pc] w' fun e w'' => e = .returned (.string (pathX p)) ∧ Ex w' w'') := fun w' h => l12Path_any p pa pc w' hp hp4 (PA_below hT h)
  obtain ⟨b, o, rfl, _, hbs, hM'⟩ := MA_at hM (by omega)
  obtain ⟨e0, e1, e2, ⟨pa0, pc0, e3, hp0⟩, a0, c0, e4, hm0⟩ := hM' 0 (by omega)
  have I0 : Hid _ := fun w' (h : Ex w w') => hK 0 (by omega) pa0 pc0 a0 c0 w' h (PA_below (PS_pa.1 hp0) h) (MA_below hm0 h)
  have HR : Hid (termX (d + 1) 7 n s p f = ⟨#[97, 116]⟩ ++ pathX p ++ ⟨#[32]⟩ ++ kidX d f 0) := by show _ = _; rw [termX_at, hl, upX_1, cat3 _ (⟨#[32]⟩ : ByteArray)]; rfl
  have zp := pathX_size hp
  generalize termX (d + 1) 7 n s p f = R at HR ⊢
  simp only [Nat.zero_mul, Nat.add_zero] at e0 e1 e2 e3 e4
  generalize kidX d f 0 = x0 at I0 HR z0
  generalize pathX p = xp at IP HR zp
  generalize tkind f 0 = k0 at I0 e0
  generalize tnum f 0 = n0 at I0 e1
  generalize tname f 0 = s0 at I0 e2
  generalize (tpath f 0).length = l0 at I0 e3
  generalize tlen (tkid f 0) = m0 at I0 e4
  have N : Hid (Ex w (w.alloc (.cells #[.int .i64 7, .int .i64 n, .string s, .slice pa p.length pc, .slice (some ⟨b, o, none⟩) 1 c] 83))) := Ex.new _ _
  have KS : Hid (∀ w', Ex (w.alloc (.cells #[.int .i64 7, .int .i64 n, .string s, .slice pa p.length pc, .slice (some ⟨b, o, none⟩) 1 c] 83)) w' → (Ex (w.alloc (.cells #[.int .i64 7, .int .i64 n, .string s, .slice pa p.length pc, .slice (some ⟨b, o, none⟩) 1 c] 83)) w' ∧ (w'.cell? ⟨w.heap.size, 0, none⟩ = some (.int .i64 7) ∧ w'.cell? ⟨w.heap.size, 1, none⟩ = some (.int .i64 n) ∧ w'.cell? ⟨w.heap.size, 2, none⟩ = some (.string s) ∧ w'.cell? ⟨w.heap.size, 3, none⟩ = some (.slice pa p.length pc) ∧ w'.cell? ⟨w.heap.size, 4, none⟩ = some (.slice (some ⟨b, o, none⟩) 1 c)) ∧ w'.cell? ⟨b, o, none⟩ = some (.int .i64 k0) ∧ w'.cell? ⟨b, o + 1, none⟩ = some (.int .i64 n0) ∧ w'.cell? ⟨b, o + 2, none⟩ = some (.string s0) ∧ w'.cell? ⟨b, o + 3, none⟩ = some (.slice pa0 l0 pc0) ∧ w'.cell? ⟨b, o + 4, none⟩ = some (.slice a0 m0 c0))) := fun w' h => ⟨h, ⟨h.at (by simp), h.at (by simp), h.at (by simp), h.at (by simp), h.at (by simp)⟩, h.at ((Ex.new _ _).at e0), h.at ((Ex.new _ _).at e1), h.at ((Ex.new _ _).at e2), h.at ((Ex.new _ _).at e3), h.at ((Ex.new _ _).at e4)⟩
  have n1 : ¬ 9223372036854775807 < 2 + xp.size := by omega
  have n2 : ¬ 9223372036854775807 < 2 + xp.size + 1 := by omega
  have n3 : ¬ 9223372036854775807 < 2 + xp.size + 1 + x0.size := by omega
  rw [hl]
  clear hp hp4 hT hM hM' hK hp0 hm0 e0 e1 e2 e3 e4 z0 zp hl
  go_enter Tryz.func40, Tryz.ntmps40
  go_wp2_with fail
  go_region_held3 (fun w' => Ex (w.alloc (.cells #[.int .i64 7, .int .i64 n, .string s, .slice pa p.length pc, .slice (some ⟨b, o, none⟩) 1 c] 83)) w' ∧ (w'.cell? ⟨w.heap.size, 0, none⟩ = some (.int .i64 7) ∧ w'.cell? ⟨w.heap.size, 1, none⟩ = some (.int .i64 n) ∧ w'.cell? ⟨w.heap.size, 2, none⟩ = some (.string s) ∧ w'.cell? ⟨w.heap.size, 3, none⟩ = some (.slice pa p.length pc) ∧ w'.cell? ⟨w.heap.size, 4, none⟩ = some (.slice (some ⟨b, o, none⟩) 1 c)) ∧ w'.cell? ⟨b, o, none⟩ = some (.int .i64 k0) ∧ w'.cell? ⟨b, o + 1, none⟩ = some (.int .i64 n0) ∧ w'.cell? ⟨b, o + 2, none⟩ = some (.string s0) ∧ w'.cell? ⟨b, o + 3, none⟩ = some (.slice pa0 l0 pc0) ∧ w'.cell? ⟨b, o + 4, none⟩ = some (.slice a0 m0 c0)) ((refine KS.out _ ?_; first | exact (Ex.refl _).drew | exact (And.left ‹Ex _ _ ∧ _›) | exact Ex.trans (And.left ‹Ex _ _ ∧ _›) ‹Ex _ _›)) (first | (go_at_call 55; refine (IP.out _ (Ex.trans N.out (And.left ‹Ex _ _ ∧ _›))).mono ?_; rintro e wp ⟨rfl, hbp⟩) | (go_at_call_of 40 (Value.slice a0 m0 c0); refine (I0.out _ (Ex.trans N.out (And.left ‹Ex _ _ ∧ _›))).mono ?_; rintro e w1 ⟨rfl, hb0⟩))
  go_wp2_with fail
  go_ret
  exact ⟨ret_s HR.out.symm, N.out.trans (And.left ‹Ex _ _ ∧ _›)⟩

set_option maxRecDepth 100000 in
set_option maxHeartbeats 8000000 in
theorem say_put (n : Int) (s : ByteArray) (p : List Int) (pa : Option Addr) (pc : Nat) (f : TM) (a : Option Addr) (c d : Nat) (w : World) (hp : pathB p = true) (hp4 : p.length ≤ 4) (hl : tlen f = 2) (z0 : (kidX d f 0).size ≤ 10000000) (z1 : (kidX d f 1).size ≤ 10000000) (hT : PA w 0 p pa) (hM : MA w 0 f a) (hK : ∀ j, j < tlen f → ∀ (pa' : Option Addr) (pc' : Nat) (a' : Option Addr) (c' : Nat) (w' : World), Ex w w' → PA w' 0 (tpath f j) pa' → MA w' 0 (tkid f j) a' → Calls Tryz.prog 40 #[.agg #[.int .i64 (tkind f j), .int .i64 (tnum f j), .string (tname f j), .slice pa' (tpath f j).length pc', .slice a' (tlen (tkid f j)) c']] w' fun e w'' => e = .returned (.string (kidX d f j)) ∧ Ex w' w'') :
    Calls Tryz.prog 40 #[.agg #[.int .i64 8, .int .i64 n, .string s, .slice pa p.length pc, .slice a (tlen f) c]] w fun e w' => e = .returned (.string (termX (d + 1) 8 n s p f)) ∧ Ex w w' := by
  have IP : Hid (∀ w', Ex w w' → Calls Tryz.prog 55 #[.slice pa p.length pc] w' fun e w'' => e = .returned (.string (pathX p)) ∧ Ex w' w'') := fun w' h => l12Path_any p pa pc w' hp hp4 (PA_below hT h)
  obtain ⟨b, o, rfl, _, hbs, hM'⟩ := MA_at hM (by omega)
  obtain ⟨e0, e1, e2, ⟨pa0, pc0, e3, hp0⟩, a0, c0, e4, hm0⟩ := hM' 0 (by omega)
  have I0 : Hid _ := fun w' (h : Ex w w') => hK 0 (by omega) pa0 pc0 a0 c0 w' h (PA_below (PS_pa.1 hp0) h) (MA_below hm0 h)
  obtain ⟨f0, f1, f2, ⟨pa1, pc1, f3, hp1⟩, a1, c1, f4, hm1⟩ := hM' 1 (by omega)
  have I1 : Hid _ := fun w' (h : Ex w w') => hK 1 (by omega) pa1 pc1 a1 c1 w' h (PA_below (PS_pa.1 hp1) h) (MA_below hm1 h)
  have HR : Hid (termX (d + 1) 8 n s p f = ⟨#[112, 117, 116]⟩ ++ pathX p ++ ⟨#[32]⟩ ++ kidX d f 0 ++ ⟨#[32]⟩ ++ kidX d f 1) := by show _ = _; rw [termX_at, hl, upX_2]; simp only [cat3]; rfl
  have zp := pathX_size hp
  generalize termX (d + 1) 8 n s p f = R at HR ⊢
  simp only [Nat.zero_mul, Nat.add_zero, Nat.one_mul, Nat.add_assoc, Nat.reduceAdd] at e0 e1 e2 e3 e4 f0 f1 f2 f3 f4
  generalize kidX d f 0 = x0 at I0 HR z0
  generalize kidX d f 1 = x1 at I1 HR z1
  generalize pathX p = xp at IP HR zp
  generalize tkind f 0 = k0 at I0 e0
  generalize tnum f 0 = n0 at I0 e1
  generalize tname f 0 = s0 at I0 e2
  generalize (tpath f 0).length = l0 at I0 e3
  generalize tlen (tkid f 0) = m0 at I0 e4
  generalize tkind f 1 = k1 at I1 f0
  generalize tnum f 1 = n1 at I1 f1
  generalize tname f 1 = s1 at I1 f2
  generalize (tpath f 1).length = l1 at I1 f3
  generalize tlen (tkid f 1) = m1 at I1 f4
  have N : Hid (Ex w (w.alloc (.cells #[.int .i64 8, .int .i64 n, .string s, .slice pa p.length pc, .slice (some ⟨b, o, none⟩) 2 c] 83))) := Ex.new _ _
  have KS : Hid (∀ w', Ex (w.alloc (.cells #[.int .i64 8, .int .i64 n, .string s, .slice pa p.length pc, .slice (some ⟨b, o, none⟩) 2 c] 83)) w' → (Ex (w.alloc (.cells #[.int .i64 8, .int .i64 n, .string s, .slice pa p.length pc, .slice (some ⟨b, o, none⟩) 2 c] 83)) w' ∧ (w'.cell? ⟨w.heap.size, 0, none⟩ = some (.int .i64 8) ∧ w'.cell? ⟨w.heap.size, 1, none⟩ = some (.int .i64 n) ∧ w'.cell? ⟨w.heap.size, 2, none⟩ = some (.string s) ∧ w'.cell? ⟨w.heap.size, 3, none⟩ = some (.slice pa p.length pc) ∧ w'.cell? ⟨w.heap.size, 4, none⟩ = some (.slice (some ⟨b, o, none⟩) 2 c)) ∧ (w'.cell? ⟨b, o, none⟩ = some (.int .i64 k0) ∧ w'.cell? ⟨b, o + 1, none⟩ = some (.int .i64 n0) ∧ w'.cell? ⟨b, o + 2, none⟩ = some (.string s0) ∧ w'.cell? ⟨b, o + 3, none⟩ = some (.slice pa0 l0 pc0) ∧ w'.cell? ⟨b, o + 4, none⟩ = some (.slice a0 m0 c0)) ∧ w'.cell? ⟨b, o + 5, none⟩ = some (.int .i64 k1) ∧ w'.cell? ⟨b, o + 6, none⟩ = some (.int .i64 n1) ∧ w'.cell? ⟨b, o + 7, none⟩ = some (.string s1) ∧ w'.cell? ⟨b, o + 8, none⟩ = some (.slice pa1 l1 pc1) ∧ w'.cell? ⟨b, o + 9, none⟩ = some (.slice a1 m1 c1))) := fun w' h => ⟨h, ⟨h.at (by simp), h.at (by simp), h.at (by simp), h.at (by simp), h.at (by simp)⟩, ⟨h.at ((Ex.new _ _).at e0), h.at ((Ex.new _ _).at e1), h.at ((Ex.new _ _).at e2), h.at ((Ex.new _ _).at e3), h.at ((Ex.new _ _).at e4)⟩, h.at ((Ex.new _ _).at f0), h.at ((Ex.new _ _).at f1), h.at ((Ex.new _ _).at f2), h.at ((Ex.new _ _).at f3), h.at ((Ex.new _ _).at f4)⟩
  have y1 : ¬ 9223372036854775807 < 3 + xp.size := by omega
  have y2 : ¬ 9223372036854775807 < 3 + xp.size + 1 := by omega
  have y3 : ¬ 9223372036854775807 < 3 + xp.size + 1 + x0.size := by omega
  have y4 : ¬ 9223372036854775807 < 3 + xp.size + 1 + x0.size + 1 := by omega
  have y5 : ¬ 9223372036854775807 < 3 + xp.size + 1 + x0.size + 1 + x1.size := by omega
  rw [hl]
  clear hp hp4 hT hM hM' hK hp0 hm0 hp1 hm1 e0 e1 e2 e3 e4 f0 f1 f2 f3 f4 z0 z1 zp hl
  go_enter Tryz.func40, Tryz.ntmps40
  go_wp2_with fail
  go_region_held3 (fun w' => Ex (w.alloc (.cells #[.int .i64 8, .int .i64 n, .string s, .slice pa p.length pc, .slice (some ⟨b, o, none⟩) 2 c] 83)) w' ∧ (w'.cell? ⟨w.heap.size, 0, none⟩ = some (.int .i64 8) ∧ w'.cell? ⟨w.heap.size, 1, none⟩ = some (.int .i64 n) ∧ w'.cell? ⟨w.heap.size, 2, none⟩ = some (.string s) ∧ w'.cell? ⟨w.heap.size, 3, none⟩ = some (.slice pa p.length pc) ∧ w'.cell? ⟨w.heap.size, 4, none⟩ = some (.slice (some ⟨b, o, none⟩) 2 c)) ∧ (w'.cell? ⟨b, o, none⟩ = some (.int .i64 k0) ∧ w'.cell? ⟨b, o + 1, none⟩ = some (.int .i64 n0) ∧ w'.cell? ⟨b, o + 2, none⟩ = some (.string s0) ∧ w'.cell? ⟨b, o + 3, none⟩ = some (.slice pa0 l0 pc0) ∧ w'.cell? ⟨b, o + 4, none⟩ = some (.slice a0 m0 c0)) ∧ w'.cell? ⟨b, o + 5, none⟩ = some (.int .i64 k1) ∧ w'.cell? ⟨b, o + 6, none⟩ = some (.int .i64 n1) ∧ w'.cell? ⟨b, o + 7, none⟩ = some (.string s1) ∧ w'.cell? ⟨b, o + 8, none⟩ = some (.slice pa1 l1 pc1) ∧ w'.cell? ⟨b, o + 9, none⟩ = some (.slice a1 m1 c1)) ((refine KS.out _ ?_; first | exact (Ex.refl _).drew | exact (And.left ‹Ex _ _ ∧ _›) | exact Ex.trans (And.left ‹Ex _ _ ∧ _›) ‹Ex _ _›)) (first | (go_at_call 55; refine (IP.out _ (Ex.trans N.out (And.left ‹Ex _ _ ∧ _›))).mono ?_; rintro e wp ⟨rfl, hbp⟩) | (go_at_call_of 40 (Value.slice a0 m0 c0); refine (I0.out _ (Ex.trans N.out (And.left ‹Ex _ _ ∧ _›))).mono ?_; rintro e w1 ⟨rfl, hb0⟩) | (go_at_call_of 40 (Value.slice a1 m1 c1); refine (I1.out _ (Ex.trans N.out (And.left ‹Ex _ _ ∧ _›))).mono ?_; rintro e w1 ⟨rfl, hb0⟩))
  go_wp2_with fail
  go_ret
  exact ⟨ret_s HR.out.symm, N.out.trans (And.left ‹Ex _ _ ∧ _›)⟩

set_option maxRecDepth 100000 in
set_option maxHeartbeats 8000000 in
theorem say_op (k : Nat) (h3 : 3 ≤ k) (h6 : k ≤ 6) (n : Int) (s : ByteArray) (p : List Int) (pa : Option Addr) (pc : Nat) (f : TM) (a : Option Addr) (c d : Nat) (w : World) (hl : tlen f = 2) (z0 : (kidX d f 0).size ≤ 10000000) (z1 : (kidX d f 1).size ≤ 10000000) (hM : MA w 0 f a) (hK : ∀ j, j < tlen f → ∀ (pa' : Option Addr) (pc' : Nat) (a' : Option Addr) (c' : Nat) (w' : World), Ex w w' → PA w' 0 (tpath f j) pa' → MA w' 0 (tkid f j) a' → Calls Tryz.prog 40 #[.agg #[.int .i64 (tkind f j), .int .i64 (tnum f j), .string (tname f j), .slice pa' (tpath f j).length pc', .slice a' (tlen (tkid f j)) c']] w' fun e w'' => e = .returned (.string (kidX d f j)) ∧ Ex w' w'') :
    Calls Tryz.prog 40 #[.agg #[.int .i64 (k : Nat), .int .i64 n, .string s, .slice pa p.length pc, .slice a (tlen f) c]] w fun e w' => e = .returned (.string (termX (d + 1) (k : Nat) n s p f)) ∧ Ex w w' := by
  obtain ⟨b, o, rfl, _, hbs, hM'⟩ := MA_at hM (by omega)
  obtain ⟨e0, e1, e2, ⟨pa0, pc0, e3, hp0⟩, a0, c0, e4, hm0⟩ := hM' 0 (by omega)
  have I0 : Hid _ := fun w' (h : Ex w w') => hK 0 (by omega) pa0 pc0 a0 c0 w' h (PA_below (PS_pa.1 hp0) h) (MA_below hm0 h)
  obtain ⟨f0, f1, f2, ⟨pa1, pc1, f3, hp1⟩, a1, c1, f4, hm1⟩ := hM' 1 (by omega)
  have I1 : Hid _ := fun w' (h : Ex w w') => hK 1 (by omega) pa1 pc1 a1 c1 w' h (PA_below (PS_pa.1 hp1) h) (MA_below hm1 h)
  have HR : Hid (termX (d + 1) (k : Nat) n s p f = sgn k ++ ⟨#[32]⟩ ++ kidX d f 0 ++ ⟨#[32]⟩ ++ kidX d f 1) := by show _ = _; rw [termX_at, hl, upX_2, wordX_sgn h3 h6]; simp only [cat3]
  have zs := sgn_size k
  generalize termX (d + 1) (k : Nat) n s p f = R at HR ⊢
  simp only [Nat.zero_mul, Nat.add_zero, Nat.one_mul, Nat.add_assoc, Nat.reduceAdd] at e0 e1 e2 e3 e4 f0 f1 f2 f3 f4
  generalize kidX d f 0 = x0 at I0 HR z0
  generalize kidX d f 1 = x1 at I1 HR z1
  generalize tkind f 0 = k0 at I0 e0
  generalize tnum f 0 = n0 at I0 e1
  generalize tname f 0 = s0 at I0 e2
  generalize (tpath f 0).length = l0 at I0 e3
  generalize tlen (tkid f 0) = m0 at I0 e4
  generalize tkind f 1 = k1 at I1 f0
  generalize tnum f 1 = n1 at I1 f1
  generalize tname f 1 = s1 at I1 f2
  generalize (tpath f 1).length = l1 at I1 f3
  generalize tlen (tkid f 1) = m1 at I1 f4
  have N : Hid (Ex w (w.alloc (.cells #[.int .i64 (k : Nat), .int .i64 n, .string s, .slice pa p.length pc, .slice (some ⟨b, o, none⟩) 2 c] 83))) := Ex.new _ _
  have KS : Hid (∀ w', Ex (w.alloc (.cells #[.int .i64 (k : Nat), .int .i64 n, .string s, .slice pa p.length pc, .slice (some ⟨b, o, none⟩) 2 c] 83)) w' → (Ex (w.alloc (.cells #[.int .i64 (k : Nat), .int .i64 n, .string s, .slice pa p.length pc, .slice (some ⟨b, o, none⟩) 2 c] 83)) w' ∧ (w'.cell? ⟨w.heap.size, 0, none⟩ = some (.int .i64 (k : Nat)) ∧ w'.cell? ⟨w.heap.size, 1, none⟩ = some (.int .i64 n) ∧ w'.cell? ⟨w.heap.size, 2, none⟩ = some (.string s) ∧ w'.cell? ⟨w.heap.size, 3, none⟩ = some (.slice pa p.length pc) ∧ w'.cell? ⟨w.heap.size, 4, none⟩ = some (.slice (some ⟨b, o, none⟩) 2 c)) ∧ (w'.cell? ⟨b, o, none⟩ = some (.int .i64 k0) ∧ w'.cell? ⟨b, o + 1, none⟩ = some (.int .i64 n0) ∧ w'.cell? ⟨b, o + 2, none⟩ = some (.string s0) ∧ w'.cell? ⟨b, o + 3, none⟩ = some (.slice pa0 l0 pc0) ∧ w'.cell? ⟨b, o + 4, none⟩ = some (.slice a0 m0 c0)) ∧ w'.cell? ⟨b, o + 5, none⟩ = some (.int .i64 k1) ∧ w'.cell? ⟨b, o + 6, none⟩ = some (.int .i64 n1) ∧ w'.cell? ⟨b, o + 7, none⟩ = some (.string s1) ∧ w'.cell? ⟨b, o + 8, none⟩ = some (.slice pa1 l1 pc1) ∧ w'.cell? ⟨b, o + 9, none⟩ = some (.slice a1 m1 c1))) := fun w' h => ⟨h, ⟨h.at (by simp), h.at (by simp), h.at (by simp), h.at (by simp), h.at (by simp)⟩, ⟨h.at ((Ex.new _ _).at e0), h.at ((Ex.new _ _).at e1), h.at ((Ex.new _ _).at e2), h.at ((Ex.new _ _).at e3), h.at ((Ex.new _ _).at e4)⟩, h.at ((Ex.new _ _).at f0), h.at ((Ex.new _ _).at f1), h.at ((Ex.new _ _).at f2), h.at ((Ex.new _ _).at f3), h.at ((Ex.new _ _).at f4)⟩
  have y1 : ¬ 9223372036854775807 < (sgn k).size + 1 := by omega
  have y3 : ¬ 9223372036854775807 < (sgn k).size + 1 + x0.size := by omega
  have y4 : ¬ 9223372036854775807 < (sgn k).size + 1 + x0.size + 1 := by omega
  have y5 : ¬ 9223372036854775807 < (sgn k).size + 1 + x0.size + 1 + x1.size := by omega
  have q1 : ((k : Int) == 1) = false := by rw [beq_eq_false_iff_ne]; omega
  have q2 : ((k : Int) == 2) = false := by rw [beq_eq_false_iff_ne]; omega
  have q7 : ((k : Int) == 7) = false := by rw [beq_eq_false_iff_ne]; omega
  have q8 : ((k : Int) == 8) = false := by rw [beq_eq_false_iff_ne]; omega
  have b0 : (0 : Int) ≤ (k : Int) := by omega
  have b1 : (k : Int) < 7 := by omega
  have b2 : k < 7 := by omega
  rw [hl]
  clear hM hM' hK hp0 hm0 hp1 hm1 e0 e1 e2 e3 e4 f0 f1 f2 f3 f4 z0 z1 zs hl
  go_enter Tryz.func40, Tryz.ntmps40
  go_wp2_with fail
  refine wp_region_held_drew (S := fun w' => Ex (w.alloc (.cells #[.int .i64 (k : Nat), .int .i64 n, .string s, .slice pa p.length pc, .slice (some ⟨b, o, none⟩) 2 c] 83)) w' ∧ (w'.cell? ⟨w.heap.size, 0, none⟩ = some (.int .i64 (k : Nat)) ∧ w'.cell? ⟨w.heap.size, 1, none⟩ = some (.int .i64 n) ∧ w'.cell? ⟨w.heap.size, 2, none⟩ = some (.string s) ∧ w'.cell? ⟨w.heap.size, 3, none⟩ = some (.slice pa p.length pc) ∧ w'.cell? ⟨w.heap.size, 4, none⟩ = some (.slice (some ⟨b, o, none⟩) 2 c)) ∧ (w'.cell? ⟨b, o, none⟩ = some (.int .i64 k0) ∧ w'.cell? ⟨b, o + 1, none⟩ = some (.int .i64 n0) ∧ w'.cell? ⟨b, o + 2, none⟩ = some (.string s0) ∧ w'.cell? ⟨b, o + 3, none⟩ = some (.slice pa0 l0 pc0) ∧ w'.cell? ⟨b, o + 4, none⟩ = some (.slice a0 m0 c0)) ∧ w'.cell? ⟨b, o + 5, none⟩ = some (.int .i64 k1) ∧ w'.cell? ⟨b, o + 6, none⟩ = some (.int .i64 n1) ∧ w'.cell? ⟨b, o + 7, none⟩ = some (.string s1) ∧ w'.cell? ⟨b, o + 8, none⟩ = some (.slice pa1 l1 pc1) ∧ w'.cell? ⟨b, o + 9, none⟩ = some (.slice a1 m1 c1)) (by kernel_rfl) (KS.out _ (Ex.refl _).drew) (fun hHeld => ?_)
  refine wpAnyH_take (i := 1) (v := ?_) rfl (by kernel_rfl) (by kernel_rfl) (by kernel_rfl) (fun _ _ _ h => h) (Or.inl ⟨by rfl, ?_⟩) (by assumption) ?_
  rotate_left
  · (intro w' hSw; (try dsimp only at hSw); go_simp) <;> with_reducible rfl
  change wpAnyH Tryz.prog _ _ _ _ _ _ (Act.put _ (some 48) _) _
  (try simp only [Act.put, List.setIfInBounds_toArray, List.set_cons_zero, List.set_cons_succ])
  refine wpAnyH_take (i := 2) (v := ?_) rfl (by kernel_rfl) (by kernel_rfl) (by kernel_rfl) (fun _ _ _ h => h) (Or.inl ⟨by rfl, ?_⟩) (by assumption) ?_
  rotate_left
  · (intro w' hSw; (try dsimp only at hSw); go_simp) <;> with_reducible rfl
  change wpAnyH Tryz.prog _ _ _ _ _ _ (Act.put _ (some 49) _) _
  (try simp only [Act.put, List.setIfInBounds_toArray, List.set_cons_zero, List.set_cons_succ])
  refine wpAnyH_take (i := 6) (v := ?_) rfl (by kernel_rfl) (by kernel_rfl) (by kernel_rfl) (fun _ _ _ h => h) (Or.inl ⟨by rfl, ?_⟩) (by assumption) ?_
  rotate_left
  · (intro w' hSw; (try dsimp only at hSw); go_simp) <;> with_reducible rfl
  change wpAnyH Tryz.prog _ _ _ _ _ _ (Act.put _ (some 53) _) _
  (try simp only [Act.put, List.setIfInBounds_toArray, List.set_cons_zero, List.set_cons_succ])
  refine wpAnyH_take (i := 7) (v := ?_) rfl (by kernel_rfl) (by kernel_rfl) (by kernel_rfl) (fun _ _ _ h => h) (Or.inl ⟨by rfl, ?_⟩) (by assumption) ?_
  rotate_left
  · (intro w' hSw; (try dsimp only at hSw); go_simp) <;> with_reducible rfl
  change wpAnyH Tryz.prog _ _ _ _ _ _ (Act.put _ (some 54) _) _
  (try simp only [Act.put, List.setIfInBounds_toArray, List.set_cons_zero, List.set_cons_succ])
  refine wpAnyH_take (i := 8) (v := ?_) rfl (by kernel_rfl) (by kernel_rfl) (by kernel_rfl) (fun _ _ _ h => h) (Or.inl ⟨by rfl, ?_⟩) (by assumption) ?_
  rotate_left
  · (intro w' hSw; (try dsimp only at hSw); go_simp) <;> with_reducible rfl
  change wpAnyH Tryz.prog _ _ _ _ _ _ (Act.put _ (some 55) _) _
  (try simp only [Act.put, List.setIfInBounds_toArray, List.set_cons_zero, List.set_cons_succ])
  refine wpAnyH_take (i := 9) (v := ?_) rfl (by kernel_rfl) (by kernel_rfl) (by kernel_rfl) (fun _ _ _ h => h) (Or.inl ⟨by rfl, ?_⟩) (by assumption) ?_
  rotate_left
  · (intro w' hSw; (try dsimp only at hSw); go_simp) <;> with_reducible rfl
  change wpAnyH Tryz.prog _ _ _ _ _ _ (Act.put _ (some 56) _) _
  (try simp only [Act.put, List.setIfInBounds_toArray, List.set_cons_zero, List.set_cons_succ])
  refine wpAnyH_take (i := 13) (v := ?_) rfl (by kernel_rfl) (by kernel_rfl) (by kernel_rfl) (fun _ _ _ h => h) (Or.inl ⟨by rfl, ?_⟩) (by assumption) ?_
  rotate_left
  · (intro w' hSw; (try dsimp only at hSw); go_simp) <;> with_reducible rfl
  change wpAnyH Tryz.prog _ _ _ _ _ _ (Act.put _ (some 60) _) _
  (try simp only [Act.put, List.setIfInBounds_toArray, List.set_cons_zero, List.set_cons_succ])
  refine wpAnyH_take (i := 14) (v := ?_) rfl (by kernel_rfl) (by kernel_rfl) (by kernel_rfl) (fun _ _ _ h => h) (Or.inl ⟨by rfl, ?_⟩) (by assumption) ?_
  rotate_left
  · (intro w' hSw; (try dsimp only at hSw); go_simp) <;> with_reducible rfl
  change wpAnyH Tryz.prog _ _ _ _ _ _ (Act.put _ (some 61) _) _
  (try simp only [Act.put, List.setIfInBounds_toArray, List.set_cons_zero, List.set_cons_succ])
  refine wpAnyH_take (i := 15) (v := ?_) rfl (by kernel_rfl) (by kernel_rfl) (by kernel_rfl) (fun _ _ _ h => h) (Or.inl ⟨by rfl, ?_⟩) (by assumption) ?_
  rotate_left
  · (intro w' hSw; (try dsimp only at hSw); go_simp) <;> with_reducible rfl
  change wpAnyH Tryz.prog _ _ _ _ _ _ (Act.put _ (some 62) _) _
  (try simp only [Act.put, List.setIfInBounds_toArray, List.set_cons_zero, List.set_cons_succ])
  refine wpAnyH_take (i := 16) (v := ?_) rfl (by kernel_rfl) (by kernel_rfl) (by kernel_rfl) (fun _ _ _ h => h) (Or.inl ⟨by rfl, ?_⟩) (by assumption) ?_
  rotate_left
  · (intro w' hSw; (try dsimp only at hSw); go_simp) <;> with_reducible rfl
  change wpAnyH Tryz.prog _ _ _ _ _ _ (Act.put _ (some 63) _) _
  (try simp only [Act.put, List.setIfInBounds_toArray, List.set_cons_zero, List.set_cons_succ])
  refine wpAnyH_ready (rs := [0]) (by kernel_rfl) (by simp) ?_
  refine (AllReadyH.cons (i := 0) rfl (fun K hK => ?_) AllReadyH.nil)
  go_simp
  refine (l2Signs_any _).mono ?_
  rintro e ws ⟨g, rfl, hy, hb⟩
  have hz := hy k h3 h6
  clear hy
  go_wp2_with fail
  refine hK.out _ _ ?_ (fun hHeld => ?_)
  · exact KS.out _ (hHeld.1.trans hb)
  clear hK
  (try simp only [Act.put, List.setIfInBounds_toArray, List.set_cons_zero, List.set_cons_succ])
  refine wpAnyH_take (i := 3) (v := ?_) rfl (by kernel_rfl) (by kernel_rfl) (by kernel_rfl) (fun _ _ _ h => h) (Or.inl ⟨by rfl, ?_⟩) (by assumption) ?_
  rotate_left
  · (intro w' hSw; (try dsimp only at hSw); go_simp) <;> with_reducible rfl
  change wpAnyH Tryz.prog _ _ _ _ _ _ (Act.put _ (some 50) _) _
  (try simp only [Act.put, List.setIfInBounds_toArray, List.set_cons_zero, List.set_cons_succ])
  refine wpAnyH_ready (rs := [4, 10]) (by kernel_rfl) (by simp) ?_
  refine (AllReadyH.cons (i := 4) rfl (fun K hK => ?_) (AllReadyH.cons (i := 10) rfl (fun K hK => ?_) AllReadyH.nil))
  · go_simp
    go_wp2_with fail
    refine hK.out _ _ ?_ (fun hHeld => ?_)
    · exact KS.out _ hHeld.1
    clear hK
    (try simp only [Act.put, List.setIfInBounds_toArray, List.set_cons_zero, List.set_cons_succ])
    refine wpAnyH_take (i := 5) (v := ?_) rfl (by kernel_rfl) (by kernel_rfl) (by kernel_rfl) (fun _ _ _ h => h) (Or.inl ⟨by rfl, ?_⟩) (by assumption) ?_
    rotate_left
    · (intro w' hSw; (try dsimp only at hSw); go_simp) <;> with_reducible rfl
    change wpAnyH Tryz.prog _ _ _ _ _ _ (Act.put _ (some 52) _) _
    (try simp only [Act.put, List.setIfInBounds_toArray, List.set_cons_zero, List.set_cons_succ])
    refine wpAnyH_ready (rs := [10]) (by kernel_rfl) (by simp) ?_
    refine (AllReadyH.cons (i := 10) rfl (fun K hK => ?_) AllReadyH.nil)
    go_simp
    refine (I0.out _ (N.out.trans hHeld.1)).mono ?_
    rintro e w1 ⟨rfl, hb⟩
    go_wp2_with fail
    refine hK.out _ _ ?_ (fun hHeld => ?_)
    · exact KS.out _ (hHeld.1.trans hb)
    clear hK
    (try simp only [Act.put, List.setIfInBounds_toArray, List.set_cons_zero, List.set_cons_succ])
    refine wpAnyH_take (i := 11) (v := ?_) rfl (by kernel_rfl) (by kernel_rfl) (by kernel_rfl) (fun _ _ _ h => h) (Or.inl ⟨by rfl, ?_⟩) (by assumption) ?_
    rotate_left
    · (intro w' hSw; (try dsimp only at hSw); go_simp) <;> with_reducible rfl
    change wpAnyH Tryz.prog _ _ _ _ _ _ (Act.put _ (some 58) _) _
    (try simp only [Act.put, List.setIfInBounds_toArray, List.set_cons_zero, List.set_cons_succ])
    refine wpAnyH_take (i := 12) (v := ?_) rfl (by kernel_rfl) (by kernel_rfl) (by kernel_rfl) (fun _ _ _ h => h) (Or.inl ⟨by rfl, ?_⟩) (by assumption) ?_
    rotate_left
    · (intro w' hSw; (try dsimp only at hSw); go_simp) <;> with_reducible rfl
    change wpAnyH Tryz.prog _ _ _ _ _ _ (Act.put _ (some 59) _) _
    (try simp only [Act.put, List.setIfInBounds_toArray, List.set_cons_zero, List.set_cons_succ])
    refine wpAnyH_ready (rs := [17]) (by kernel_rfl) (by simp) ?_
    refine (AllReadyH.cons (i := 17) rfl (fun K hK => ?_) AllReadyH.nil)
    go_simp
    refine (I1.out _ (N.out.trans hHeld.1)).mono ?_
    rintro e w1 ⟨rfl, hb⟩
    go_wp2_with fail
    refine hK.out _ _ ?_ (fun hHeld => ?_)
    · exact KS.out _ (hHeld.1.trans hb)
    clear hK
    (try simp only [Act.put, List.setIfInBounds_toArray, List.set_cons_zero, List.set_cons_succ])
    refine wpAnyH_take (i := 18) (v := ?_) rfl (by kernel_rfl) (by kernel_rfl) (by kernel_rfl) (fun _ _ _ h => h) (Or.inl ⟨by rfl, ?_⟩) (by assumption) ?_
    rotate_left
    · (intro w' hSw; (try dsimp only at hSw); go_simp) <;> with_reducible rfl
    change wpAnyH Tryz.prog _ _ _ _ _ _ (Act.put _ (some 65) _) _
    (try simp only [Act.put, List.setIfInBounds_toArray, List.set_cons_zero, List.set_cons_succ])
    refine wpAnyH_take (i := 19) (v := ?_) rfl (by kernel_rfl) (by kernel_rfl) (by kernel_rfl) (fun _ _ _ h => h) (Or.inl ⟨by rfl, ?_⟩) (by assumption) ?_
    rotate_left
    · (intro w' hSw; (try dsimp only at hSw); go_simp) <;> with_reducible rfl
    change wpAnyH Tryz.prog _ _ _ _ _ _ (Act.put _ (some 2) _) _
    (try simp only [Act.put, List.setIfInBounds_toArray, List.set_cons_zero, List.set_cons_succ])
    refine wpAnyH_done (by kernel_rfl) ?_ _
    go_wp2_with fail
    go_ret
    exact ⟨ret_s HR.out.symm, N.out.trans hHeld.1⟩
  · go_simp
    refine (I0.out _ (N.out.trans hHeld.1)).mono ?_
    rintro e w1 ⟨rfl, hb⟩
    have hz := hb.at hz
    go_wp2_with fail
    refine hK.out _ _ ?_ (fun hHeld => ?_)
    · exact KS.out _ (hHeld.1.trans hb)
    clear hK
    (try simp only [Act.put, List.setIfInBounds_toArray, List.set_cons_zero, List.set_cons_succ])
    refine wpAnyH_ready (rs := [4, 17]) (by kernel_rfl) (by simp) ?_
    refine (AllReadyH.cons (i := 4) rfl (fun K hK => ?_) (AllReadyH.cons (i := 17) rfl (fun K hK => ?_) AllReadyH.nil))
    · go_simp
      go_wp2_with fail
      refine hK.out _ _ ?_ (fun hHeld => ?_)
      · exact KS.out _ hHeld.1
      clear hK
      (try simp only [Act.put, List.setIfInBounds_toArray, List.set_cons_zero, List.set_cons_succ])
      refine wpAnyH_take (i := 5) (v := ?_) rfl (by kernel_rfl) (by kernel_rfl) (by kernel_rfl) (fun _ _ _ h => h) (Or.inl ⟨by rfl, ?_⟩) (by assumption) ?_
      rotate_left
      · (intro w' hSw; (try dsimp only at hSw); go_simp) <;> with_reducible rfl
      change wpAnyH Tryz.prog _ _ _ _ _ _ (Act.put _ (some 52) _) _
      (try simp only [Act.put, List.setIfInBounds_toArray, List.set_cons_zero, List.set_cons_succ])
      refine wpAnyH_take (i := 11) (v := ?_) rfl (by kernel_rfl) (by kernel_rfl) (by kernel_rfl) (fun _ _ _ h => h) (Or.inl ⟨by rfl, ?_⟩) (by assumption) ?_
      rotate_left
      · (intro w' hSw; (try dsimp only at hSw); go_simp) <;> with_reducible rfl
      change wpAnyH Tryz.prog _ _ _ _ _ _ (Act.put _ (some 58) _) _
      (try simp only [Act.put, List.setIfInBounds_toArray, List.set_cons_zero, List.set_cons_succ])
      refine wpAnyH_take (i := 12) (v := ?_) rfl (by kernel_rfl) (by kernel_rfl) (by kernel_rfl) (fun _ _ _ h => h) (Or.inl ⟨by rfl, ?_⟩) (by assumption) ?_
      rotate_left
      · (intro w' hSw; (try dsimp only at hSw); go_simp) <;> with_reducible rfl
      change wpAnyH Tryz.prog _ _ _ _ _ _ (Act.put _ (some 59) _) _
      (try simp only [Act.put, List.setIfInBounds_toArray, List.set_cons_zero, List.set_cons_succ])
      refine wpAnyH_ready (rs := [17]) (by kernel_rfl) (by simp) ?_
      refine (AllReadyH.cons (i := 17) rfl (fun K hK => ?_) AllReadyH.nil)
      go_simp
      refine (I1.out _ (N.out.trans hHeld.1)).mono ?_
      rintro e w1 ⟨rfl, hb⟩
      go_wp2_with fail
      refine hK.out _ _ ?_ (fun hHeld => ?_)
      · exact KS.out _ (hHeld.1.trans hb)
      clear hK
      (try simp only [Act.put, List.setIfInBounds_toArray, List.set_cons_zero, List.set_cons_succ])
      refine wpAnyH_take (i := 18) (v := ?_) rfl (by kernel_rfl) (by kernel_rfl) (by kernel_rfl) (fun _ _ _ h => h) (Or.inl ⟨by rfl, ?_⟩) (by assumption) ?_
      rotate_left
      · (intro w' hSw; (try dsimp only at hSw); go_simp) <;> with_reducible rfl
      change wpAnyH Tryz.prog _ _ _ _ _ _ (Act.put _ (some 65) _) _
      (try simp only [Act.put, List.setIfInBounds_toArray, List.set_cons_zero, List.set_cons_succ])
      refine wpAnyH_take (i := 19) (v := ?_) rfl (by kernel_rfl) (by kernel_rfl) (by kernel_rfl) (fun _ _ _ h => h) (Or.inl ⟨by rfl, ?_⟩) (by assumption) ?_
      rotate_left
      · (intro w' hSw; (try dsimp only at hSw); go_simp) <;> with_reducible rfl
      change wpAnyH Tryz.prog _ _ _ _ _ _ (Act.put _ (some 2) _) _
      (try simp only [Act.put, List.setIfInBounds_toArray, List.set_cons_zero, List.set_cons_succ])
      refine wpAnyH_done (by kernel_rfl) ?_ _
      go_wp2_with fail
      go_ret
      exact ⟨ret_s HR.out.symm, N.out.trans hHeld.1⟩
    · go_simp
      refine (I1.out _ (N.out.trans hHeld.1)).mono ?_
      rintro e w1 ⟨rfl, hb⟩
      have hz := hb.at hz
      go_wp2_with fail
      refine hK.out _ _ ?_ (fun hHeld => ?_)
      · exact KS.out _ (hHeld.1.trans hb)
      clear hK
      (try simp only [Act.put, List.setIfInBounds_toArray, List.set_cons_zero, List.set_cons_succ])
      refine wpAnyH_ready (rs := [4]) (by kernel_rfl) (by simp) ?_
      refine (AllReadyH.cons (i := 4) rfl (fun K hK => ?_) AllReadyH.nil)
      go_simp
      go_wp2_with fail
      refine hK.out _ _ ?_ (fun hHeld => ?_)
      · exact KS.out _ hHeld.1
      clear hK
      (try simp only [Act.put, List.setIfInBounds_toArray, List.set_cons_zero, List.set_cons_succ])
      refine wpAnyH_take (i := 5) (v := ?_) rfl (by kernel_rfl) (by kernel_rfl) (by kernel_rfl) (fun _ _ _ h => h) (Or.inl ⟨by rfl, ?_⟩) (by assumption) ?_
      rotate_left
      · (intro w' hSw; (try dsimp only at hSw); go_simp) <;> with_reducible rfl
      change wpAnyH Tryz.prog _ _ _ _ _ _ (Act.put _ (some 52) _) _
      (try simp only [Act.put, List.setIfInBounds_toArray, List.set_cons_zero, List.set_cons_succ])
      refine wpAnyH_take (i := 11) (v := ?_) rfl (by kernel_rfl) (by kernel_rfl) (by kernel_rfl) (fun _ _ _ h => h) (Or.inl ⟨by rfl, ?_⟩) (by assumption) ?_
      rotate_left
      · (intro w' hSw; (try dsimp only at hSw); go_simp) <;> with_reducible rfl
      change wpAnyH Tryz.prog _ _ _ _ _ _ (Act.put _ (some 58) _) _
      (try simp only [Act.put, List.setIfInBounds_toArray, List.set_cons_zero, List.set_cons_succ])
      refine wpAnyH_take (i := 12) (v := ?_) rfl (by kernel_rfl) (by kernel_rfl) (by kernel_rfl) (fun _ _ _ h => h) (Or.inl ⟨by rfl, ?_⟩) (by assumption) ?_
      rotate_left
      · (intro w' hSw; (try dsimp only at hSw); go_simp) <;> with_reducible rfl
      change wpAnyH Tryz.prog _ _ _ _ _ _ (Act.put _ (some 59) _) _
      (try simp only [Act.put, List.setIfInBounds_toArray, List.set_cons_zero, List.set_cons_succ])
      refine wpAnyH_take (i := 18) (v := ?_) rfl (by kernel_rfl) (by kernel_rfl) (by kernel_rfl) (fun _ _ _ h => h) (Or.inl ⟨by rfl, ?_⟩) (by assumption) ?_
      rotate_left
      · (intro w' hSw; (try dsimp only at hSw); go_simp) <;> with_reducible rfl
      change wpAnyH Tryz.prog _ _ _ _ _ _ (Act.put _ (some 65) _) _
      (try simp only [Act.put, List.setIfInBounds_toArray, List.set_cons_zero, List.set_cons_succ])
      refine wpAnyH_take (i := 19) (v := ?_) rfl (by kernel_rfl) (by kernel_rfl) (by kernel_rfl) (fun _ _ _ h => h) (Or.inl ⟨by rfl, ?_⟩) (by assumption) ?_
      rotate_left
      · (intro w' hSw; (try dsimp only at hSw); go_simp) <;> with_reducible rfl
      change wpAnyH Tryz.prog _ _ _ _ _ _ (Act.put _ (some 2) _) _
      (try simp only [Act.put, List.setIfInBounds_toArray, List.set_cons_zero, List.set_cons_succ])
      refine wpAnyH_done (by kernel_rfl) ?_ _
      go_wp2_with fail
      go_ret
      exact ⟨ret_s HR.out.symm, N.out.trans hHeld.1⟩

end Go.Proofs.YtpibamhkmmgooaaGreatDoor
