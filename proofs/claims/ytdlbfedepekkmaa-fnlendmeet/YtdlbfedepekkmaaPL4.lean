/- Walks: LendMeet of both. -/
import Derived.Test.YtdlbfedepekkmaaPL3

namespace Go.Proofs.Ytdlbfedepekkmaa

open Go.RowKit Go.Deep

attribute [local go_sem ↓] Go.wp_at_zero Go.wp_at_succ

/-- What LendMeet tells. -/
def lendB (s t : ByteArray) (p q : List Int) : Bool := placeB s p && placeB t q && meetB s t p q

set_option maxHeartbeats 1000000 in
theorem sLendMeet_any (s t : ByteArray) (p q : List Int) (a a' : Option Addr) (c c' : Nat) (w : World) (hP : PA w 0 p a) (hQ : PA w 0 q a') (hl : p.length ≤ 1000000000) (hl' : q.length ≤ 1000000000) :
    Calls Try.prog 7 #[.agg #[.string s, .slice a p.length c], .agg #[.string t, .slice a' q.length c']] w fun e w' => e = .returned (.bool (lendB s t p q)) ∧ Ex w w' := by
  have P : Hid (∀ w', Ex w w' → PA w' 0 p a) := fun _ h => PA_below hP h
  have Q : Hid (∀ w', Ex w w' → PA w' 0 q a') := fun _ h => PA_below hQ h
  have N : Hid (Ex w ((w.alloc (.cells #[.string s, .slice a p.length c] 25)).alloc (.cells #[.string t, .slice a' q.length c'] 25))) := (Ex.new _ _).alloc _
  have C : Hid (∀ w', Ex ((w.alloc (.cells #[.string s, .slice a p.length c] 25)).alloc (.cells #[.string t, .slice a' q.length c'] 25)) w' → (w'.cell? ⟨w.heap.size, 0, none⟩ = some (.string s) ∧ w'.cell? ⟨w.heap.size, 1, none⟩ = some (.slice a p.length c) ∧ w'.cell? ⟨w.heap.size + 1, 0, none⟩ = some (.string t) ∧ w'.cell? ⟨w.heap.size + 1, 1, none⟩ = some (.slice a' q.length c'))) := fun w' h => ⟨h.at (by simp), h.at (by simp), h.at (by simp), h.at (by simp)⟩
  clear hP hQ
  go_enter Try.func7, Try.ntmps7
  go_wp2_with fail
  refine (l2Place_any s p a c _ (P.out _ N.out)).mono ?_
  rintro e w1 ⟨rfl, hb1⟩
  obtain ⟨q1, q2, q3, q4⟩ := C.out w1 hb1
  cases h1 : placeB s p with
  | false =>
    have HR : Hid (lendB s t p q = false) := by show _ = _; rw [lendB, h1]; rfl
    go_wp2_with fail
    go_ret
    exact ⟨ret_b HR.out.symm, N.out.trans hb1⟩
  | true =>
    have H1 : Hid (placeB s p = true) := h1
    clear h1
    go_wp2_with fail
    refine (l2Place_any t q a' c' _ (Q.out _ (N.out.trans hb1))).mono ?_
    rintro e w2 ⟨rfl, hb2⟩
    have hx2 := hb1.trans hb2
    clear q1 q2 q3 q4
    obtain ⟨q1, q2, q3, q4⟩ := C.out w2 hx2
    cases h2 : placeB t q with
    | false =>
      have HR : Hid (lendB s t p q = false) := by show _ = _; rw [lendB, H1.out, h2]; rfl
      go_wp2_with fail
      go_ret
      exact ⟨ret_b HR.out.symm, N.out.trans hx2⟩
    | true =>
      have HR : Hid (lendB s t p q = meetB s t p q) := by show _ = _; rw [lendB, H1.out, h2]; rfl
      go_wp2_with fail
      refine (l3Meet_any s t p q a a' c c' _ (P.out _ (N.out.trans hx2)) (Q.out _ (N.out.trans hx2)) hl hl').mono ?_
      rintro e w3 ⟨rfl, hb3⟩
      go_wp2_with fail
      go_ret
      exact ⟨ret_b HR.out.symm, N.out.trans (hx2.trans hb3)⟩

set_option maxHeartbeats 1000000 in
theorem iLendMeet_any (s t : ByteArray) (p q : List Int) (a a' : Option Addr) (c c' : Nat) (w : World) (hP : PA w 0 p a) (hQ : PA w 0 q a') (hl : p.length ≤ 1000000000) (hl' : q.length ≤ 1000000000) (hc : p.length ≤ c) (hc' : q.length ≤ c') :
    Calls Try.prog 6 #[.agg #[.string s, .slice a p.length c], .agg #[.string t, .slice a' q.length c']] w fun e w' => e = .returned (.bool (lendB s t p q)) ∧ Ex w w' := by
  have P : Hid (∀ w', Ex w w' → PA w' 0 p a) := fun _ h => PA_below hP h
  have Q : Hid (∀ w', Ex w w' → PA w' 0 q a') := fun _ h => PA_below hQ h
  have N : Hid (Ex w ((w.alloc (.cells #[.string s, .slice a p.length c] 25)).alloc (.cells #[.string t, .slice a' q.length c'] 25))) := (Ex.new _ _).alloc _
  have C : Hid (∀ w', Ex ((w.alloc (.cells #[.string s, .slice a p.length c] 25)).alloc (.cells #[.string t, .slice a' q.length c'] 25)) w' → (w'.cell? ⟨w.heap.size, 0, none⟩ = some (.string s) ∧ w'.cell? ⟨w.heap.size, 1, none⟩ = some (.slice a p.length c) ∧ w'.cell? ⟨w.heap.size + 1, 0, none⟩ = some (.string t) ∧ w'.cell? ⟨w.heap.size + 1, 1, none⟩ = some (.slice a' q.length c'))) := fun w' h => ⟨h.at (by simp), h.at (by simp), h.at (by simp), h.at (by simp)⟩
  clear hP hQ
  go_enter Try.func6, Try.ntmps6
  go_wp2_with fail
  refine (placeOk_any s p a c _ (P.out _ N.out)).mono ?_
  rintro e w1 ⟨rfl, hb1⟩
  obtain ⟨q1, q2, q3, q4⟩ := C.out w1 hb1
  cases h1 : placeB s p with
  | false =>
    have HR : Hid (lendB s t p q = false) := by show _ = _; rw [lendB, h1]; rfl
    go_wp2_with fail
    go_ret
    exact ⟨ret_b HR.out.symm, N.out.trans hb1⟩
  | true =>
    have H1 : Hid (placeB s p = true) := h1
    clear h1
    go_wp2_with fail
    refine (placeOk_any t q a' c' _ (Q.out _ (N.out.trans hb1))).mono ?_
    rintro e w2 ⟨rfl, hb2⟩
    have hx2 := hb1.trans hb2
    clear q1 q2 q3 q4
    obtain ⟨q1, q2, q3, q4⟩ := C.out w2 hx2
    cases h2 : placeB t q with
    | false =>
      have HR : Hid (lendB s t p q = false) := by show _ = _; rw [lendB, H1.out, h2]; rfl
      go_wp2_with fail
      go_ret
      exact ⟨ret_b HR.out.symm, N.out.trans hx2⟩
    | true =>
      have HR : Hid (lendB s t p q = meetB s t p q) := by show _ = _; rw [lendB, H1.out, h2]; rfl
      go_wp2_with fail
      refine (placesMeet_any s t p q a a' c c' _ (P.out _ (N.out.trans hx2)) (Q.out _ (N.out.trans hx2)) hl hl' hc hc').mono ?_
      rintro e w3 ⟨rfl, hb3⟩
      go_wp2_with fail
      go_ret
      exact ⟨ret_b HR.out.symm, N.out.trans (hx2.trans hb3)⟩
end Go.Proofs.Ytdlbfedepekkmaa
